/- Several texts in one. -/
import Derived.Test.YtmpgaccpdglhkaaSpC
import Derived.Test.YtmpgaccpdglhkaaSpD
import Derived.Test.YtmpgaccpdglhkaaConB
import Derived.Test.YtmpgaccpdglhkaaGdA
/- Validate, Has, Within, Hull, Meet, Size, Point, Of, Halves of span: contracts. -/
set_option linter.unusedVariables false
set_option linter.unusedSimpArgs false
namespace Go.Proofs.Ytmpgaccpdglhkaa
open Go.RowKit Tinker

/-- A new slice of ranges, and a code. -/
def GivesRgE (b : List Rg) (c : Int) (w : World) (e : Ending) (w' : World) : Prop :=
  ∃ a cap, e = .returned (.tuple #[.slice a b.length cap, .int .i64 c]) ∧ w'.ownsRow w.heap.size 52 2 (.slice a b.length cap) b.length (gc b) ∧ Below w.heap.size w w'
theorem givesRgE_nil {c : Int} {w w' : World} (hB : Below w.heap.size w w') : GivesRgE [] c w (.returned (.tuple #[.slice none 0 0, .int .i64 c])) w' := ⟨none, 0, rfl, World.ownsRow_nil _ _ _ _, hB⟩
theorem GivesRg.wide {b : List Rg} {w w0 : World} {e : Ending} {w' : World} (h : GivesRg b w e w') (hB : Below w0.heap.size w0 w) : GivesRg b w0 e w' := by
  obtain ⟨a, c, he, ho, hb⟩ := h
  exact ⟨a, c, he, own_mono ho hB.size, hB.trans (hb.mono hB.size)⟩
theorem okG_no1 {x : Rg} (h : btw x.lo (-999) 999 = false) : okG x = false := by unfold okG; rw [h]; rfl
theorem okG_no2 {x : Rg} (h : btw x.hi (-999) 999 = false) : okG x = false := by unfold okG; rw [h]; simp
theorem okG_no3 {x : Rg} (h : decide (x.hi < x.lo) = true) : okG x = false := by
  unfold okG
  rw [show decide (x.lo ≤ x.hi) = false by simp at h ⊢; omega]; simp
theorem okG_yes {x : Rg} (h1 : btw x.lo (-999) 999 = true) (h2 : btw x.hi (-999) 999 = true) (h3 : decide (x.hi < x.lo) = false) : okG x = true := by
  unfold okG
  rw [h1, h2, show decide (x.lo ≤ x.hi) = true by simp at h3 ⊢; omega]; rfl
theorem fe_zero {a b : Int} (h : fe a b = 0) : a = 0 ∧ b = 0 := by
  unfold fe at h; split at h
  · exact ⟨by assumption, h⟩
  · exact absurd h (by assumption)

set_option maxRecDepth 100000 in
set_option maxHeartbeats 2000000 in
theorem sValidate_any (a : Option Addr) (ca : Nat) (b : List Rg) (w : World) (hb : RangesAt w a b) :
    Calls Try.prog 76 #[.slice a b.length ca] w fun e w' => e = .returned (.int .i64 (vb b)) ∧ Below w.heap.size w w' := by
  by_cases h4 : b.length = 4
  · have HL := Lib.hid h4
    have HBA := Lib.hid (fun k x (hx : b[k]? = some x) h => vb_bad hx h)
    rw [h4]
    clear h4
    go_enter Try.func76, Try.ntmps76
    go_wp2_with fail
    go_loopw [10] (fun s10 wr => ∃ k : Nat, k ≤ 4 ∧ s10 = .int .i64 k ∧ (b.take k).all okG = true ∧ Below w.heap.size w wr) (fun s10 _ => 4 - (intOf s10).toNat)
    case atStart => exact ⟨0, Nat.zero_le _, rfl, by simp, Below.refl _ _⟩
    case round =>
      obtain ⟨k, hk, rfl, hall, hB⟩ := hrel
      have HA := Lib.hid hall
      clear hall
      by_cases hlt : k < 4
      · obtain ⟨g, off, x, rfl, hlb, hx, c0, c1⟩ := (hb.below hB (Nat.le_refl _)).at_ (show k < b.length by rw [HL.out]; exact hlt)
        have HX := Lib.hid hx
        have HB := Lib.hid hB
        have hs := hB.size
        have HE := Lib.hid (fun w => ivEmpty_any x w)
        unfold gv at HE
        have HV1 := Lib.hid (fun w => isValue_any x.lo w)
        have HV2 := Lib.hid (fun w => isValue_any x.hi w)
        clear hx hb hB
        cases h1 : btw x.lo (-999) 999
        · have HBad := Lib.hid (HBA.out k x HX.out (okG_no1 h1))
          rw [h1] at HV1
          clear h1
          go_wp2_with fail
          refine (HV1.out _).mono ?_
          rintro e w1 ⟨rfl, rfl⟩
          go_wp2_with fail
          go_ret
          exact ⟨ret_int HBad.out.symm, HB.out.alloc hs _⟩
        · cases h2 : btw x.hi (-999) 999
          · have HBad := Lib.hid (HBA.out k x HX.out (okG_no2 h2))
            rw [h1] at HV1
            rw [h2] at HV2
            clear h1 h2
            go_wp2_with fail
            refine (HV1.out _).mono ?_
            rintro e w1 ⟨rfl, rfl⟩
            go_wp2_with fail
            refine (HV2.out _).mono ?_
            rintro e w1 ⟨rfl, rfl⟩
            go_wp2_with fail
            go_ret
            exact ⟨ret_int HBad.out.symm, HB.out.alloc hs _⟩
          · cases h3 : decide (x.hi < x.lo)
            · have HOk := Lib.hid (okG_yes h1 h2 h3)
              rw [h1] at HV1
              rw [h2] at HV2
              rw [h3] at HE
              clear h1 h2 h3
              go_wp2_with fail
              refine (HV1.out _).mono ?_
              rintro e w1 ⟨rfl, rfl⟩
              go_wp2_with fail
              refine (HV2.out _).mono ?_
              rintro e w1 ⟨rfl, rfl⟩
              go_wp2_with fail
              refine (HE.out _).mono ?_
              rintro e w2 ⟨rfl, hB2⟩
              have HB2 := Lib.hid ((HB.out.alloc hs _).trans (hB2.mono (by simp; omega)))
              clear hB2
              go_wp2_with fail
              go_roundw
              case rel => exact ⟨k + 1, by omega, by go_num, all_snoc HA.out HX.out HOk.out, HB2.out⟩
              case measure => simp [intOf]; omega
            · have HBad := Lib.hid (HBA.out k x HX.out (okG_no3 h3))
              rw [h1] at HV1
              rw [h2] at HV2
              rw [h3] at HE
              clear h1 h2 h3
              go_wp2_with fail
              refine (HV1.out _).mono ?_
              rintro e w1 ⟨rfl, rfl⟩
              go_wp2_with fail
              refine (HV2.out _).mono ?_
              rintro e w1 ⟨rfl, rfl⟩
              go_wp2_with fail
              refine (HE.out _).mono ?_
              rintro e w2 ⟨rfl, hB2⟩
              have HB2 := Lib.hid ((HB.out.alloc hs _).trans (hB2.mono (by simp; omega)))
              clear hB2
              go_wp2_with fail
              go_ret
              exact ⟨ret_int HBad.out.symm, HB2.out⟩
      · have : k = 4 := by omega
        subst this
        rw [show ((4 : Nat) : Int) = 4 from rfl]
        go_wp2_with fail
        go_ret
        exact ⟨ret_int (vb_all HL.out (all_whole HA.out (by rw [HL.out]; omega))).symm, hB⟩
  · rw [vb_len h4]
    have h4' : ((b.length : Int) != 4) = true := by rw [bne_iff_ne]; omega
    have h4'' : ((b.length : Int) == 4) = false := by rw [beq_eq_false_iff_ne]; omega
    clear h4 hb
    go_enter Try.func76, Try.ntmps76
    go_wp2
    go_ret
    exact ⟨rfl, Below.refl _ _⟩

set_option maxHeartbeats 400000 in
theorem sValidateRegister_any (r : Int) (w : World) : Calls Try.prog 61 #[.int .i64 r] w fun e w' => e = .returned (.int .i64 (if isReg r then 0 else 1)) ∧ w = w' := by
  have HR := Lib.hid (fun w => kIsRegister_any r w)
  cases h : isReg r
  · rw [h] at HR
    go_enter Try.func61, Try.ntmps61
    go_wp2_with fail
    refine (HR.out _).mono ?_
    rintro e w1 ⟨rfl, rfl⟩
    go_wp2_with fail
    go_ret
    exact ⟨rfl, rfl⟩
  · rw [h] at HR
    go_enter Try.func61, Try.ntmps61
    go_wp2_with fail
    refine (HR.out _).mono ?_
    rintro e w1 ⟨rfl, rfl⟩
    go_wp2_with fail
    go_ret
    exact ⟨rfl, rfl⟩

/-- What Has of span answers. -/
def hasA (b : List Rg) (s : List Int) : Bool := if fe (vb b) (vs s) = 0 then memB b s else false

set_option maxRecDepth 100000 in
set_option maxHeartbeats 2000000 in
theorem sHas_any (a a2 : Option Addr) (ca c2 : Nat) (b : List Rg) (s : List Int) (w : World) (hb : RangesAt w a b) (hs : IntsAt w a2 s) (hm : s.length ≤ 1000) :
    Calls Try.prog 35 #[.slice a b.length ca, .slice a2 s.length c2] w fun e w' => e = .returned (.tuple #[.bool (hasA b s), .int .i64 (fe (vb b) (vs s))]) ∧ Below w.heap.size w w' := by
  have H1 := Lib.hid (fun w h => sValidate_any a ca b w h)
  have H2 := Lib.hid (fun w h => validateState_any a2 c2 s w h (by omega))
  have HR := Lib.hid hb
  have HS := Lib.hid hs
  by_cases hz : fe (vb b) (vs s) = 0
  · obtain ⟨z1, z2⟩ := fe_zero hz
    have hok := vb_ok z1
    have hs4 := (vs_ok z2).1
    have h4 := hok.l4
    rw [show hasA b s = memB b s by unfold hasA; rw [if_pos hz], hz]
    have HBO := Lib.hid (fun w hb => boxOf_any a ca b w hb h4)
    have HBH := Lib.hid (fun w hs => boxHas_any a2 c2 b s w h4 hs hs4)
    rw [z1] at H1
    rw [z2] at H2
    rw [h4] at H1
    rw [hs4] at H2
    rw [h4, hs4]
    generalize memB b s = M at *
    clear hz z1 z2 hok hs4 h4 hb hs
    go_enter Try.func35, Try.ntmps35
    go_wp2_with fail
    refine (H1.out _ HR.out).mono ?_
    rintro e w1 ⟨rfl, hB⟩
    have HB0 := Lib.hid (hB)
    clear hB
    go_wp2_with fail
    refine (H2.out _ (HS.out.below HB0.out (Nat.le_refl _))).mono ?_
    rintro e w0 ⟨rfl, rfl⟩
    go_wp2_with fail
    refine (firstError_two _ _ _ _).mono ?_
    rintro e w9 ⟨rfl, hw9⟩
    have HB9 := Lib.hid (show Below w.heap.size w w9 by rw [← hw9]; first | exact HB0.out.alloc HB0.out.size _ | exact HB0.out)
    clear hw9
    have HB5 := Lib.hid HB9.out
    have hz0 : fe 0 0 = 0 := rfl
    rw [hz0]
    go_wp2_with fail
    refine (HBO.out _ (HR.out.below HB5.out (Nat.le_refl _))).mono ?_
    rintro e w3 ⟨rfl, hB⟩
    have HB6 := Lib.hid (HB5.out.trans (hB.mono HB5.out.size))
    clear hB
    go_wp2_with fail
    refine (HBH.out _ (HS.out.below HB6.out (Nat.le_refl _))).mono ?_
    rintro e w4 ⟨rfl, hB⟩
    go_wp2_with fail
    go_ret2
    exact ⟨rfl, HB6.out.trans (hB.mono HB6.out.size)⟩
  · rw [show hasA b s = false by unfold hasA; rw [if_neg hz]]
    have hz1 : (fe (vb b) (vs s) != 0) = true := by simpa using hz
    have hz2 : (fe (vb b) (vs s) == 0) = false := by simpa using hz
    generalize vb b = v1 at *
    generalize vs s = v2 at *
    clear hz hb hs
    go_enter Try.func35, Try.ntmps35
    go_wp2_with fail
    refine (H1.out _ HR.out).mono ?_
    rintro e w1 ⟨rfl, hB⟩
    have HB0 := Lib.hid (hB)
    clear hB
    go_wp2_with fail
    refine (H2.out _ (HS.out.below HB0.out (Nat.le_refl _))).mono ?_
    rintro e w0 ⟨rfl, rfl⟩
    go_wp2_with fail
    refine (firstError_two _ _ _ _).mono ?_
    rintro e w9 ⟨rfl, hw9⟩
    have HB9 := Lib.hid (show Below w.heap.size w w9 by rw [← hw9]; first | exact HB0.out.alloc HB0.out.size _ | exact HB0.out)
    clear hw9
    go_wp2_with fail
    go_ret2
    exact ⟨rfl, HB9.out⟩

end Go.Proofs.Ytmpgaccpdglhkaa

/- Within, Hull, Meet, Size, Point, Of of span: contracts. -/
set_option linter.unusedVariables false
set_option linter.unusedSimpArgs false
namespace Go.Proofs.Ytmpgaccpdglhkaa
open Go.RowKit Tinker

/-- A new slice of ranges, whether it is one, and a code. -/
def GivesRgB (b : List Rg) (k : Bool) (c : Int) (w : World) (e : Ending) (w' : World) : Prop :=
  ∃ a cap, e = .returned (.tuple #[.slice a b.length cap, .bool k, .int .i64 c]) ∧ w'.ownsRow w.heap.size 52 2 (.slice a b.length cap) b.length (gc b) ∧ Below w.heap.size w w'
theorem givesRgB_nil {k : Bool} {c : Int} {w w' : World} (hB : Below w.heap.size w w') : GivesRgB [] k c w (.returned (.tuple #[.slice none 0 0, .bool k, .int .i64 c])) w' := ⟨none, 0, rfl, World.ownsRow_nil _ _ _ _, hB⟩

/-- What Within answers. -/
def withA (a b : List Rg) : Bool := if fe (vb a) (vb b) = 0 then subB a b else false

set_option maxRecDepth 100000 in
set_option maxHeartbeats 2000000 in
theorem sWithin_any (a1 a2 : Option Addr) (c1 c2 : Nat) (a b : List Rg) (w : World) (ha : RangesAt w a1 a) (hb : RangesAt w a2 b) :
    Calls Try.prog 36 #[.slice a1 a.length c1, .slice a2 b.length c2] w fun e w' => e = .returned (.tuple #[.bool (withA a b), .int .i64 (fe (vb a) (vb b))]) ∧ Below w.heap.size w w' := by
  have H1 := Lib.hid (fun w h => sValidate_any a1 c1 a w h)
  have H2 := Lib.hid (fun w h => sValidate_any a2 c2 b w h)
  have HR := Lib.hid ha
  have HS := Lib.hid hb
  by_cases hz : fe (vb a) (vb b) = 0
  · obtain ⟨z1, z2⟩ := fe_zero hz
    have hok1 := vb_ok z1
    have hok2 := vb_ok z2
    have h4 := hok1.l4
    have k4 := hok2.l4
    rw [show withA a b = subB a b by unfold withA; rw [if_pos hz], hz]
    have HBO1 := Lib.hid (fun w hb => boxOf_any a1 c1 a w hb h4)
    have HBO2 := Lib.hid (fun w hb => boxOf_any a2 c2 b w hb k4)
    have HW := Lib.hid (fun w => boxWithin_any a b w h4 k4)
    rw [z1] at H1
    rw [z2] at H2
    rw [h4] at H1
    rw [k4] at H2
    rw [h4, k4]
    generalize subB a b = M at *
    clear hz z1 z2 hok1 hok2 h4 k4 ha hb
    go_enter Try.func36, Try.ntmps36
    go_wp2_with fail
    refine (H1.out _ HR.out).mono ?_
    rintro e w1 ⟨rfl, hB⟩
    have HB0 := Lib.hid (hB)
    clear hB
    go_wp2_with fail
    refine (H2.out _ (HS.out.below HB0.out (Nat.le_refl _))).mono ?_
    rintro e w2 ⟨rfl, hB⟩
    have HB1 := Lib.hid (HB0.out.trans (hB.mono HB0.out.size))
    clear hB
    go_wp2_with fail
    refine (firstError_two _ _ _ _).mono ?_
    rintro e w9 ⟨rfl, hw9⟩
    have HB9 := Lib.hid (show Below w.heap.size w w9 by rw [← hw9]; first | exact HB1.out.alloc HB1.out.size _ | exact HB1.out)
    clear hw9
    have hz0 : fe 0 0 = 0 := rfl
    rw [hz0]
    go_wp2_with fail
    refine (HBO1.out _ (HR.out.below HB9.out (Nat.le_refl _))).mono ?_
    rintro e w3 ⟨rfl, hB⟩
    have HB6 := Lib.hid (HB9.out.trans (hB.mono HB9.out.size))
    clear hB
    go_wp2_with fail
    refine (HBO2.out _ (HS.out.below HB6.out (Nat.le_refl _))).mono ?_
    rintro e w4 ⟨rfl, hB⟩
    have HB7 := Lib.hid (HB6.out.trans (hB.mono HB6.out.size))
    clear hB
    go_wp2_with fail
    refine (HW.out _).mono ?_
    rintro e w5 ⟨rfl, hB⟩
    have HB8 := Lib.hid (HB7.out.trans (hB.mono HB7.out.size))
    clear hB
    go_wp2_with fail
    go_ret2
    exact ⟨rfl, HB8.out⟩
  · rw [show withA a b = false by unfold withA; rw [if_neg hz]]
    have hz1 : (fe (vb a) (vb b) != 0) = true := by simpa using hz
    have hz2 : (fe (vb a) (vb b) == 0) = false := by simpa using hz
    generalize vb a = v1 at *
    generalize vb b = v2 at *
    clear hz ha hb
    go_enter Try.func36, Try.ntmps36
    go_wp2_with fail
    refine (H1.out _ HR.out).mono ?_
    rintro e w1 ⟨rfl, hB⟩
    have HB0 := Lib.hid (hB)
    clear hB
    go_wp2_with fail
    refine (H2.out _ (HS.out.below HB0.out (Nat.le_refl _))).mono ?_
    rintro e w2 ⟨rfl, hB⟩
    have HB1 := Lib.hid (HB0.out.trans (hB.mono HB0.out.size))
    clear hB
    go_wp2_with fail
    refine (firstError_two _ _ _ _).mono ?_
    rintro e w9 ⟨rfl, hw9⟩
    have HB9 := Lib.hid (show Below w.heap.size w w9 by rw [← hw9]; first | exact HB1.out.alloc HB1.out.size _ | exact HB1.out)
    clear hw9
    go_wp2_with fail
    go_ret2
    exact ⟨rfl, HB9.out⟩

/-- What Hull answers. -/
def hullA (a b : List Rg) : List Rg := if fe (vb a) (vb b) = 0 then hullB a b else []

set_option maxRecDepth 100000 in
set_option maxHeartbeats 2000000 in
theorem sHull_any (a1 a2 : Option Addr) (c1 c2 : Nat) (a b : List Rg) (w : World) (ha : RangesAt w a1 a) (hb : RangesAt w a2 b) :
    Calls Try.prog 39 #[.slice a1 a.length c1, .slice a2 b.length c2] w (GivesRgE (hullA a b) (fe (vb a) (vb b)) w) := by
  have H1 := Lib.hid (fun w h => sValidate_any a1 c1 a w h)
  have H2 := Lib.hid (fun w h => sValidate_any a2 c2 b w h)
  have HR := Lib.hid ha
  have HS := Lib.hid hb
  by_cases hz : fe (vb a) (vb b) = 0
  · obtain ⟨z1, z2⟩ := fe_zero hz
    have hok1 := vb_ok z1
    have hok2 := vb_ok z2
    have h4 := hok1.l4
    have k4 := hok2.l4
    rw [show hullA a b = hullB a b by unfold hullA; rw [if_pos hz], hz]
    have HBO1 := Lib.hid (fun w hb => boxOf_any a1 c1 a w hb h4)
    have HBO2 := Lib.hid (fun w hb => boxOf_any a2 c2 b w hb k4)
    have HW := Lib.hid (fun w => joinHull_any a b w h4 k4)
    have HG := Lib.hid (fun w => boxRanges_any (hullB a b) w (hullB_l h4 k4))
    rw [z1] at H1
    rw [z2] at H2
    rw [h4] at H1
    rw [k4] at H2
    rw [h4, k4]
    generalize hullB a b = M at *
    clear hz z1 z2 hok1 hok2 h4 k4 ha hb
    go_enter Try.func39, Try.ntmps39
    go_wp2_with fail
    refine (H1.out _ HR.out).mono ?_
    rintro e w1 ⟨rfl, hB⟩
    have HB0 := Lib.hid (hB)
    clear hB
    go_wp2_with fail
    refine (H2.out _ (HS.out.below HB0.out (Nat.le_refl _))).mono ?_
    rintro e w2 ⟨rfl, hB⟩
    have HB1 := Lib.hid (HB0.out.trans (hB.mono HB0.out.size))
    clear hB
    go_wp2_with fail
    refine (firstError_two _ _ _ _).mono ?_
    rintro e w9 ⟨rfl, hw9⟩
    have HB9 := Lib.hid (show Below w.heap.size w w9 by rw [← hw9]; first | exact HB1.out.alloc HB1.out.size _ | exact HB1.out)
    clear hw9
    have hz0 : fe 0 0 = 0 := rfl
    rw [hz0]
    go_wp2_with fail
    refine (HBO1.out _ (HR.out.below HB9.out (Nat.le_refl _))).mono ?_
    rintro e w3 ⟨rfl, hB⟩
    have HB6 := Lib.hid (HB9.out.trans (hB.mono HB9.out.size))
    clear hB
    go_wp2_with fail
    refine (HBO2.out _ (HS.out.below HB6.out (Nat.le_refl _))).mono ?_
    rintro e w4 ⟨rfl, hB⟩
    have HB7 := Lib.hid (HB6.out.trans (hB.mono HB6.out.size))
    clear hB
    go_wp2_with fail
    refine (HW.out _).mono ?_
    rintro e w5 ⟨rfl, hB⟩
    have HB8 := Lib.hid (HB7.out.trans (hB.mono HB7.out.size))
    clear hB
    go_wp2_with fail
    refine (HG.out _).mono ?_
    intro e w6 hG
    obtain ⟨a', c', rfl, hown, hB8⟩ := hG.wide HB8.out
    have HO := Lib.hid hown
    clear hown hG
    go_wp2_with fail
    go_ret2
    exact ⟨a', c', rfl, HO.out, hB8⟩
  · rw [show hullA a b = [] by unfold hullA; rw [if_neg hz]]
    have hz1 : (fe (vb a) (vb b) != 0) = true := by simpa using hz
    have hz2 : (fe (vb a) (vb b) == 0) = false := by simpa using hz
    generalize vb a = v1 at *
    generalize vb b = v2 at *
    clear hz ha hb
    go_enter Try.func39, Try.ntmps39
    go_wp2_with fail
    refine (H1.out _ HR.out).mono ?_
    rintro e w1 ⟨rfl, hB⟩
    have HB0 := Lib.hid (hB)
    clear hB
    go_wp2_with fail
    refine (H2.out _ (HS.out.below HB0.out (Nat.le_refl _))).mono ?_
    rintro e w2 ⟨rfl, hB⟩
    have HB1 := Lib.hid (HB0.out.trans (hB.mono HB0.out.size))
    clear hB
    go_wp2_with fail
    refine (firstError_two _ _ _ _).mono ?_
    rintro e w9 ⟨rfl, hw9⟩
    have HB9 := Lib.hid (show Below w.heap.size w w9 by rw [← hw9]; first | exact HB1.out.alloc HB1.out.size _ | exact HB1.out)
    clear hw9
    go_wp2_with fail
    go_ret2
    exact givesRgE_nil HB9.out

/-- What Meet answers. -/
def meetM (a b : List Rg) : List Rg := if decide (fe (vb a) (vb b) = 0) && !apB a b then meetB a b else []
def meetK (a b : List Rg) : Bool := if decide (fe (vb a) (vb b) = 0) && !apB a b then true else false

/-- What Size answers. -/
def sizeA (b : List Rg) : Int := if vb b = 0 then szB b else 0

set_option maxRecDepth 100000 in
set_option maxHeartbeats 2000000 in
theorem sSize_any (a1 : Option Addr) (c1 : Nat) (b : List Rg) (w : World) (hb : RangesAt w a1 b) :
    Calls Try.prog 37 #[.slice a1 b.length c1] w fun e w' => e = .returned (.tuple #[.int .i64 (sizeA b), .int .i64 (vb b)]) ∧ Below w.heap.size w w' := by
  have H1 := Lib.hid (fun w h => sValidate_any a1 c1 b w h)
  have HR := Lib.hid hb
  by_cases hz : vb b = 0
  · have hok := vb_ok hz
    have h4 := hok.l4
    rw [show sizeA b = szB b by unfold sizeA; rw [if_pos hz], hz]
    have HBO := Lib.hid (fun w hb => boxOf_any a1 c1 b w hb h4)
    have HW := Lib.hid (fun w => boxSize_any b w hok)
    rw [hz, h4] at H1
    rw [h4]
    generalize szB b = M at *
    clear hz hok h4 hb
    go_enter Try.func37, Try.ntmps37
    go_wp2_with fail
    refine (H1.out _ HR.out).mono ?_
    rintro e w1 ⟨rfl, hB⟩
    have HB0 := Lib.hid (hB)
    clear hB
    go_wp2_with fail
    refine (HBO.out _ (HR.out.below HB0.out (Nat.le_refl _))).mono ?_
    rintro e w3 ⟨rfl, hB⟩
    have HB6 := Lib.hid (HB0.out.trans (hB.mono HB0.out.size))
    clear hB
    go_wp2_with fail
    refine (HW.out _).mono ?_
    rintro e w4 ⟨rfl, hB⟩
    have HB7 := Lib.hid (HB6.out.trans (hB.mono HB6.out.size))
    clear hB
    go_wp2_with fail
    go_ret2
    exact ⟨rfl, HB7.out⟩
  · rw [show sizeA b = 0 by unfold sizeA; rw [if_neg hz]]
    have hz1 : (vb b != 0) = true := by simpa using hz
    have hz2 : (vb b == 0) = false := by simpa using hz
    generalize vb b = v1 at *
    clear hz hb
    go_enter Try.func37, Try.ntmps37
    go_wp2_with fail
    refine (H1.out _ HR.out).mono ?_
    rintro e w1 ⟨rfl, hB⟩
    have HB0 := Lib.hid (hB)
    clear hB
    go_wp2_with fail
    go_ret2
    exact ⟨rfl, HB0.out⟩

/-- What Point answers. -/
def pointA (s : List Int) : List Rg := if vs s = 0 then ptB s else []

set_option maxRecDepth 100000 in
set_option maxHeartbeats 2000000 in
theorem sPoint_any (a1 : Option Addr) (c1 : Nat) (s : List Int) (w : World) (hb : IntsAt w a1 s) (hm : s.length ≤ 1000) :
    Calls Try.prog 33 #[.slice a1 s.length c1] w (GivesRgE (pointA s) (vs s) w) := by
  have H1 := Lib.hid (fun w h => validateState_any a1 c1 s w h (by omega))
  have HR := Lib.hid hb
  by_cases hz : vs s = 0
  · have h4 := (vs_ok hz).1
    rw [show pointA s = ptB s by unfold pointA; rw [if_pos hz], hz]
    have HBO := Lib.hid (fun w h => boxBetween_any a1 a1 c1 c1 s s w h h h4 h4)
    have hpt : conB s s = ptB s := by unfold conB ptB; rw [List.zipWith_self]
    have HG := Lib.hid (fun w => boxRanges_any (ptB s) w (by rw [ptB_len]; exact h4))
    rw [hpt] at HBO
    rw [hz, h4] at H1
    rw [h4]
    generalize ptB s = M at *
    clear hz h4 hb hpt
    go_enter Try.func33, Try.ntmps33
    go_wp2_with fail
    refine (H1.out _ HR.out).mono ?_
    rintro e w0 ⟨rfl, rfl⟩
    go_wp2_with fail
    refine (HBO.out _ HR.out).mono ?_
    rintro e w3 ⟨rfl, hB⟩
    have HB6 := Lib.hid hB
    clear hB
    go_wp2_with fail
    refine (HG.out _).mono ?_
    intro e w6 hG
    obtain ⟨a', c', rfl, hown, hB8⟩ := hG.wide HB6.out
    have HO := Lib.hid hown
    clear hown hG
    go_wp2_with fail
    go_ret2
    exact ⟨a', c', rfl, HO.out, hB8⟩
  · rw [show pointA s = [] by unfold pointA; rw [if_neg hz]]
    have hz1 : (vs s != 0) = true := by simpa using hz
    have hz2 : (vs s == 0) = false := by simpa using hz
    generalize vs s = v1 at *
    clear hz hb
    go_enter Try.func33, Try.ntmps33
    go_wp2_with fail
    refine (H1.out _ HR.out).mono ?_
    rintro e w0 ⟨rfl, rfl⟩
    go_wp2_with fail
    go_ret2
    exact givesRgE_nil (Below.refl _ _)

/-- What Of answers. -/
def ofA (lo hi : List Int) (out mn mx : Int) : List Rg := if vcon lo hi out mn mx = 0 then conB lo hi else []

set_option maxRecDepth 100000 in
set_option maxHeartbeats 2000000 in
theorem sOf_any (a b : Option Addr) (ca cb : Nat) (lo hi : List Int) (out mn mx : Int) (w : World) (hl : IntsAt w a lo) (hh : IntsAt w b hi) (hm : lo.length ≤ 1000) (hm2 : hi.length ≤ 1000) :
    Calls Try.prog 30 #[.agg #[.slice a lo.length ca, .slice b hi.length cb, .int .i64 out, .int .i64 mn, .int .i64 mx]] w (GivesRgE (ofA lo hi out mn mx) (vcon lo hi out mn mx) w) := by
  have HI := Lib.hid (boxC_new (a := a) (b := b) (n := lo.length) (m := hi.length) (ca := ca) (cb := cb) (out := out) (mn := mn) (mx := mx) w)
  have HV := Lib.hid (fun w hl hh => validateContract_C a b ca cb lo hi out mn mx w hl hh hm hm2)
  have HL := Lib.hid hl
  have HH := Lib.hid hh
  by_cases hv : vcon lo hi out mn mx = 0
  · have hcon := (vcon_ok hv).1
    obtain ⟨q1, q2, _⟩ := isCon_ok hcon
    have h4 := (vs_ok q1).1
    have k4 := (vs_ok q2).1
    rw [show ofA lo hi out mn mx = conB lo hi by unfold ofA; rw [if_pos hv], hv]
    have HBO := Lib.hid (fun w h1 h2 => boxBetween_any a b ca cb lo hi w h1 h2 h4 k4)
    have HG := Lib.hid (fun w => boxRanges_any (conB lo hi) w (by unfold conB; rw [List.length_zipWith, h4, k4]; rfl))
    rw [hv, h4, k4] at HV
    rw [h4, k4] at HI
    rw [h4, k4]
    generalize conB lo hi = M at *
    clear hv hcon q1 q2 h4 k4 hl hh hm hm2
    have x0 := HI.out.c0
    have x1 := HI.out.c1
    have x2 := HI.out.c2
    have x3 := HI.out.c3
    have x4 := HI.out.c4
    go_enter Try.func30, Try.ntmps30
    go_wp2_with fail
    refine (HV.out _ (HL.out.below HI.out.below (Nat.le_refl _)) (HH.out.below HI.out.below (Nat.le_refl _))).mono ?_
    rintro e w1 ⟨rfl, hB⟩
    have HI1 := Lib.hid (HI.out.low hB)
    clear HI hB x0 x1 x2 x3 x4
    have x0 := HI1.out.c0
    have x1 := HI1.out.c1
    go_wp2_with fail
    refine (HBO.out _ (HL.out.below HI1.out.below (Nat.le_refl _)) (HH.out.below HI1.out.below (Nat.le_refl _))).mono ?_
    rintro e w3 ⟨rfl, hB⟩
    have HB6 := Lib.hid (HI1.out.low hB).below
    clear hB
    go_wp2_with fail
    refine (HG.out _).mono ?_
    intro e w6 hG
    obtain ⟨a', c', rfl, hown, hB8⟩ := hG.wide HB6.out
    have HO := Lib.hid hown
    clear hown hG
    go_wp2_with fail
    go_ret2
    exact ⟨a', c', rfl, HO.out, hB8⟩
  · rw [show ofA lo hi out mn mx = [] by unfold ofA; rw [if_neg hv]]
    have hv1 : (vcon lo hi out mn mx != 0) = true := by simpa using hv
    have hv2 : (vcon lo hi out mn mx == 0) = false := by simpa using hv
    generalize vcon lo hi out mn mx = c at *
    clear hv hl hh hm hm2
    have x0 := HI.out.c0
    have x1 := HI.out.c1
    have x2 := HI.out.c2
    have x3 := HI.out.c3
    have x4 := HI.out.c4
    go_enter Try.func30, Try.ntmps30
    go_wp2_with fail
    refine (HV.out _ (HL.out.below HI.out.below (Nat.le_refl _)) (HH.out.below HI.out.below (Nat.le_refl _))).mono ?_
    rintro e w1 ⟨rfl, hB⟩
    have HI1 := Lib.hid (HI.out.low hB)
    clear HI hB
    go_wp2_with fail
    go_ret2
    exact givesRgE_nil HI1.out.below

end Go.Proofs.Ytmpgaccpdglhkaa
