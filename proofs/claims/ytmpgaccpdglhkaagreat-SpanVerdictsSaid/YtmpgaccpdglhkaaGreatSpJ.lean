/- Several texts in one. -/
import Derived.Test.YtmpgaccpdglhkaaGreatSpC
import Derived.Test.YtmpgaccpdglhkaaGreatSpD
import Derived.Test.YtmpgaccpdglhkaaGreatConB
import Derived.Test.YtmpgaccpdglhkaaGreatGdA
/- Validate, Has, Within, Hull, Meet, Size, Point, Of, Halves of span: contracts. -/
set_option linter.unusedVariables false
set_option linter.unusedSimpArgs false
namespace Go.Proofs.YtmpgaccpdglhkaaGreat
open Go.RowKit Tinker

/-- A new slice of ranges, and a code. -/
def GivesRgE (b : List Rg) (c : Int) (w : World) (e : Ending) (w' : World) : Prop :=
  ∃ a cap, e = .returned (.tuple #[.slice a b.length cap, .int .i64 c]) ∧ w'.ownsRow w.heap.size 37 2 (.slice a b.length cap) b.length (gc b) ∧ Below w.heap.size w w'
theorem givesRgE_nil {c : Int} {w w' : World} (hB : Below w.heap.size w w') : GivesRgE [] c w (.returned (.tuple #[.slice none 0 0, .int .i64 c])) w' := ⟨none, 0, rfl, World.ownsRow_nil _ _ _ _, hB⟩
theorem GivesRg.wide {b : List Rg} {w w0 : World} {e : Ending} {w' : World} (h : GivesRg b w e w') (hB : Below w0.heap.size w0 w) : GivesRg b w0 e w' := by
  obtain ⟨a, c, he, ho, hb⟩ := h
  exact ⟨a, c, he, own_mono ho hB.size, hB.trans (hb.mono hB.size)⟩
theorem okG_no1 {x : Rg} (h : btw x.lo (-999) 999 = false) : okG x = false := by unfold okG; rw [h]; rfl
theorem okG_no2 {x : Rg} (h : btw x.hi (-999) 999 = false) : okG x = false := by unfold okG; rw [h]; simp
theorem okG_no3 {x : Rg} (h : decide (x.hi < x.lo) = true) : okG x = false := by
  unfold okG
  rw [show decide (x.lo ≤ x.hi) = false by simp at h ⊢; omega]; simp
theorem okG_yes {x : Rg} (h1 : btw x.lo (-999) 999 = true) (h2 : btw x.hi (-999) 999 = true) (h3 : decide (x.hi < x.lo) = false) : okG x = true := by
  unfold okG
  rw [h1, h2, show decide (x.lo ≤ x.hi) = true by simp at h3 ⊢; omega]; rfl
theorem fe_zero {a b : Int} (h : fe a b = 0) : a = 0 ∧ b = 0 := by
  unfold fe at h; split at h
  · exact ⟨by assumption, h⟩
  · exact absurd h (by assumption)

set_option maxRecDepth 100000 in
set_option maxHeartbeats 2000000 in
theorem sValidate_any (a : Option Addr) (ca : Nat) (b : List Rg) (w : World) (hb : RangesAt w a b) :
    Calls Tryz.prog 28 #[.slice a b.length ca] w fun e w' => e = .returned (.int .i64 (vb b)) ∧ Below w.heap.size w w' := by
  by_cases h4 : b.length = 4
  · have HL := Lib.hid h4
    have HBA := Lib.hid (fun k x (hx : b[k]? = some x) h => vb_bad hx h)
    rw [h4]
    clear h4
    go_enter Tryz.func28, Tryz.ntmps28
    go_wp2_with fail
    go_loopw [10] (fun s10 wr => ∃ k : Nat, k ≤ 4 ∧ s10 = .int .i64 k ∧ (b.take k).all okG = true ∧ Below w.heap.size w wr) (fun s10 _ => 4 - (intOf s10).toNat)
    case atStart => exact ⟨0, Nat.zero_le _, rfl, by simp, Below.refl _ _⟩
    case round =>
      obtain ⟨k, hk, rfl, hall, hB⟩ := hrel
      have HA := Lib.hid hall
      clear hall
      by_cases hlt : k < 4
      · obtain ⟨g, off, x, rfl, hlb, hx, c0, c1⟩ := (hb.below hB (Nat.le_refl _)).at_ (show k < b.length by rw [HL.out]; exact hlt)
        have HX := Lib.hid hx
        have HB := Lib.hid hB
        have hs := hB.size
        have HE := Lib.hid (fun w => ivEmpty_any x w)
        unfold gv at HE
        have HV1 := Lib.hid (fun w => isValue_any x.lo w)
        have HV2 := Lib.hid (fun w => isValue_any x.hi w)
        clear hx hb hB
        cases h1 : btw x.lo (-999) 999
        · have HBad := Lib.hid (HBA.out k x HX.out (okG_no1 h1))
          rw [h1] at HV1
          clear h1
          go_wp2_with fail
          refine (HV1.out _).mono ?_
          rintro e w1 ⟨rfl, rfl⟩
          go_wp2_with fail
          go_ret
          exact ⟨ret_int HBad.out.symm, HB.out.alloc hs _⟩
        · cases h2 : btw x.hi (-999) 999
          · have HBad := Lib.hid (HBA.out k x HX.out (okG_no2 h2))
            rw [h1] at HV1
            rw [h2] at HV2
            clear h1 h2
            go_wp2_with fail
            refine (HV1.out _).mono ?_
            rintro e w1 ⟨rfl, rfl⟩
            go_wp2_with fail
            refine (HV2.out _).mono ?_
            rintro e w1 ⟨rfl, rfl⟩
            go_wp2_with fail
            go_ret
            exact ⟨ret_int HBad.out.symm, HB.out.alloc hs _⟩
          · cases h3 : decide (x.hi < x.lo)
            · have HOk := Lib.hid (okG_yes h1 h2 h3)
              rw [h1] at HV1
              rw [h2] at HV2
              rw [h3] at HE
              clear h1 h2 h3
              go_wp2_with fail
              refine (HV1.out _).mono ?_
              rintro e w1 ⟨rfl, rfl⟩
              go_wp2_with fail
              refine (HV2.out _).mono ?_
              rintro e w1 ⟨rfl, rfl⟩
              go_wp2_with fail
              refine (HE.out _).mono ?_
              rintro e w2 ⟨rfl, hB2⟩
              have HB2 := Lib.hid ((HB.out.alloc hs _).trans (hB2.mono (by simp; omega)))
              clear hB2
              go_wp2_with fail
              go_roundw
              case rel => exact ⟨k + 1, by omega, by go_num, all_snoc HA.out HX.out HOk.out, HB2.out⟩
              case measure => simp [intOf]; omega
            · have HBad := Lib.hid (HBA.out k x HX.out (okG_no3 h3))
              rw [h1] at HV1
              rw [h2] at HV2
              rw [h3] at HE
              clear h1 h2 h3
              go_wp2_with fail
              refine (HV1.out _).mono ?_
              rintro e w1 ⟨rfl, rfl⟩
              go_wp2_with fail
              refine (HV2.out _).mono ?_
              rintro e w1 ⟨rfl, rfl⟩
              go_wp2_with fail
              refine (HE.out _).mono ?_
              rintro e w2 ⟨rfl, hB2⟩
              have HB2 := Lib.hid ((HB.out.alloc hs _).trans (hB2.mono (by simp; omega)))
              clear hB2
              go_wp2_with fail
              go_ret
              exact ⟨ret_int HBad.out.symm, HB2.out⟩
      · have : k = 4 := by omega
        subst this
        rw [show ((4 : Nat) : Int) = 4 from rfl]
        go_wp2_with fail
        go_ret
        exact ⟨ret_int (vb_all HL.out (all_whole HA.out (by rw [HL.out]; omega))).symm, hB⟩
  · rw [vb_len h4]
    have h4' : ((b.length : Int) != 4) = true := by rw [bne_iff_ne]; omega
    have h4'' : ((b.length : Int) == 4) = false := by rw [beq_eq_false_iff_ne]; omega
    clear h4 hb
    go_enter Tryz.func28, Tryz.ntmps28
    go_wp2
    go_ret
    exact ⟨rfl, Below.refl _ _⟩

set_option maxHeartbeats 400000 in
theorem sValidateRegister_any (r : Int) (w : World) : Calls Tryz.prog 29 #[.int .i64 r] w fun e w' => e = .returned (.int .i64 (if isReg r then 0 else 1)) ∧ w = w' := by
  have HR := Lib.hid (fun w => kIsRegister_any r w)
  cases h : isReg r
  · rw [h] at HR
    go_enter Tryz.func29, Tryz.ntmps29
    go_wp2_with fail
    refine (HR.out _).mono ?_
    rintro e w1 ⟨rfl, rfl⟩
    go_wp2_with fail
    go_ret
    exact ⟨rfl, rfl⟩
  · rw [h] at HR
    go_enter Tryz.func29, Tryz.ntmps29
    go_wp2_with fail
    refine (HR.out _).mono ?_
    rintro e w1 ⟨rfl, rfl⟩
    go_wp2_with fail
    go_ret
    exact ⟨rfl, rfl⟩

/-- What Has of span answers. -/
def hasA (b : List Rg) (s : List Int) : Bool := if fe (vb b) (vs s) = 0 then memB b s else false

end Go.Proofs.YtmpgaccpdglhkaaGreat

/- Within, Hull, Meet, Size, Point, Of of span: contracts. -/
set_option linter.unusedVariables false
set_option linter.unusedSimpArgs false
namespace Go.Proofs.YtmpgaccpdglhkaaGreat
open Go.RowKit Tinker

/-- A new slice of ranges, whether it is one, and a code. -/
def GivesRgB (b : List Rg) (k : Bool) (c : Int) (w : World) (e : Ending) (w' : World) : Prop :=
  ∃ a cap, e = .returned (.tuple #[.slice a b.length cap, .bool k, .int .i64 c]) ∧ w'.ownsRow w.heap.size 37 2 (.slice a b.length cap) b.length (gc b) ∧ Below w.heap.size w w'
theorem givesRgB_nil {k : Bool} {c : Int} {w w' : World} (hB : Below w.heap.size w w') : GivesRgB [] k c w (.returned (.tuple #[.slice none 0 0, .bool k, .int .i64 c])) w' := ⟨none, 0, rfl, World.ownsRow_nil _ _ _ _, hB⟩

/-- What Within answers. -/
def withA (a b : List Rg) : Bool := if fe (vb a) (vb b) = 0 then subB a b else false

/-- What Hull answers. -/
def hullA (a b : List Rg) : List Rg := if fe (vb a) (vb b) = 0 then hullB a b else []

/-- What Meet answers. -/
def meetM (a b : List Rg) : List Rg := if decide (fe (vb a) (vb b) = 0) && !apB a b then meetB a b else []
def meetK (a b : List Rg) : Bool := if decide (fe (vb a) (vb b) = 0) && !apB a b then true else false

/-- What Size answers. -/
def sizeA (b : List Rg) : Int := if vb b = 0 then szB b else 0

/-- What Point answers. -/
def pointA (s : List Int) : List Rg := if vs s = 0 then ptB s else []

/-- What Of answers. -/
def ofA (lo hi : List Int) (out mn mx : Int) : List Rg := if vcon lo hi out mn mx = 0 then conB lo hi else []

end Go.Proofs.YtmpgaccpdglhkaaGreat
