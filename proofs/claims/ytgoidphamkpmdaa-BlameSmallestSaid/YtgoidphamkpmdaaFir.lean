/- First and Smallest of both: contracts. -/
import Derived.Test.YtgoidphamkpmdaaSze
import Derived.Test.YtgoidphamkpmdaaRbk
set_option linter.unusedVariables false
set_option linter.unusedSimpArgs false
namespace Go.Proofs.Ytgoidphamkpmdaa
open Go.RowKit Tinker

/-- The first one of the smallest sets that hit a family. -/
def firM (ms : List Nat) : Nat := minM (blkM ms)
def firB (ms : List Nat) : Bool := !(blkM ms).isEmpty
theorem firM_lt (ms : List Nat) : firM ms < 256 := by
  unfold firM
  by_cases h : blkM ms = []
  · rw [h]; decide
  · exact blk_lt (minM_mem h)

set_option maxRecDepth 100000 in
set_option maxHeartbeats 1000000 in
theorem firstM_any (a : Option Addr) (cap : Nat) (ms : List Nat) (w : World) (hf : MskAt w a ms) (hv : ∀ x ∈ ms, x < 256) (hl : ms.length ≤ 1000) :
    Calls Try.prog 76 #[.slice a ms.length cap] w fun e w' => e = .returned (.tuple #[.int .u64 (firM ms), .bool (firB ms)]) ∧ Below w.heap.size w w' := by
  have HB := Lib.hid (blocker_any a cap ms w hf hv hl)
  have HM := Lib.hid (fun b c w h hp => minFunc_any b c (blkM ms) w h (fun x hx => blk_lt hx) (by have := blk_len ms; omega) hp)
  unfold firM firB
  generalize blkM ms = Z at HB HM ⊢
  clear hf hv
  cases Z with
  | nil =>
    clear HM
    go_enter Try.func76, Try.ntmps76
    go_wp2_with fail
    refine HB.out.mono ?_
    rintro e w1 ⟨a1, c1, rfl, h1, hB1⟩
    go_wp2_with fail
    go_ret2
    exact ⟨rfl, hB1⟩
  | cons x r =>
    have hpos : (((x :: r).length : Int) == 0) = false := by rw [beq_eq_false_iff_ne]; simp; omega
    have HM2 := Lib.hid (fun b c w h => HM.out b c w h (by simp))
    generalize hM : minM (x :: r) = M at HM2 ⊢
    generalize hE : (!(x :: r).isEmpty) = E
    have HE := Lib.hid (show E = true by rw [← hE]; rfl)
    generalize (x :: r) = Z at HB HM2 hpos
    clear hM hE HM
    go_enter Try.func76, Try.ntmps76
    go_wp2_with fail
    refine HB.out.mono ?_
    rintro e w1 ⟨a1, c1, rfl, h1, hB1⟩
    have H1 := Lib.hid h1
    have HB1 := Lib.hid hB1
    clear h1 hB1
    go_wp2_with fail
    refine (HM2.out _ _ _ H1.out).mono ?_
    rintro e w2 ⟨rfl, rfl⟩
    go_wp2_with fail
    go_ret2
    exact ⟨by rw [HE.out]; rfl, HB1.out⟩

/-- What First and Smallest answer. -/
def fiB (f : List (List Int)) : Bool := if vfam f = 0 then firB (fmM f) else false
def fiL (f : List (List Int)) : List Int := if vfam f = 0 then numsM (firM (fmM f)) else []
theorem fiL_len (f : List (List Int)) : (fiL f).length ≤ 8 := by unfold fiL; split; exact numsM_len _; simp
def GivesF (X : List Int) (B : Bool) (c : Int) (w : World) (e : Ending) (w' : World) : Prop :=
  ∃ a cap, e = .returned (.tuple #[.slice a X.length cap, .bool B, .int .i64 c]) ∧ IntsAt w' a X ∧ Below w.heap.size w w'

set_option maxRecDepth 100000 in
set_option maxHeartbeats 1000000 in
theorem First_any (a : Option Addr) (cap : Nat) (f : List (List Int)) (w : World) (hf : RowsAt w a f) (hm : ∀ z ∈ f, z.length ≤ 1000) :
    Calls Try.prog 30 #[.slice a f.length cap] w (GivesF (fiL f) (fiB f) (vfam f) w) := by
  have HV := Lib.hid (validateF_any a cap f w hf hm)
  unfold fiL fiB
  by_cases hz : vfam f = 0
  · obtain ⟨h70, hs⟩ := vfam_ok hz
    rw [if_pos hz, if_pos hz, hz]
    rw [hz] at HV
    have H1 := Lib.hid (fun w h => masksOf_any a cap f w h hs (by omega))
    have H2 := Lib.hid (fun b c w h => firstM_any b c (fmM f) w h (fmM_lt hs) (by rw [fmM_len]; omega))
    have H3 := Lib.hid (fun w => numbers_any (firM (fmM f)) (firM_lt _) w)
    have HR := Lib.hid hf
    generalize firM (fmM f) = M at H2 H3 ⊢
    generalize firB (fmM f) = B at H2 ⊢
    clear hz hs hf hm
    go_enter Try.func30, Try.ntmps30
    go_wp2_with fail
    refine HV.out.mono ?_
    rintro e w1 ⟨rfl, hB⟩
    have HB := Lib.hid hB
    clear hB
    go_wp2_with fail
    refine (H1.out _ (HR.out.below HB.out (Nat.le_refl _))).mono ?_
    rintro e w2 ⟨a2, c2, rfl, h2, hB2⟩
    have HM2 := Lib.hid h2
    have HB2 := Lib.hid (HB.out.trans (hB2.mono HB.out.size))
    clear h2 hB2
    go_wp2_with fail
    refine (H2.out _ _ _ HM2.out).mono ?_
    rintro e w3 ⟨rfl, hB3⟩
    have HB3 := Lib.hid (HB2.out.trans (hB3.mono HB2.out.size))
    clear hB3
    go_wp2_with fail
    refine (H3.out _).mono ?_
    rintro e w4 ⟨a4, c4, rfl, h4, hB4⟩
    have HI4 := Lib.hid (ints_of_own h4).1
    have HB4 := Lib.hid (HB3.out.trans (hB4.mono HB3.out.size))
    clear h4 hB4
    go_wp2_with fail
    go_ret3
    exact ⟨a4, c4, rfl, HI4.out, HB4.out⟩
  · rw [if_neg hz, if_neg hz]
    generalize vfam f = co at HV hz
    have hz1 : (co != 0) = true := by simpa using hz
    have hz2 : (co == 0) = false := by simpa using hz
    clear hz hf hm
    go_enter Try.func30, Try.ntmps30
    go_wp2_with fail
    refine HV.out.mono ?_
    rintro e w1 ⟨rfl, hB⟩
    go_wp2_with fail
    go_ret3
    exact ⟨none, 0, rfl, .inl rfl, hB⟩

set_option maxRecDepth 100000 in
set_option maxHeartbeats 1000000 in
theorem Smallest_any (a : Option Addr) (cap : Nat) (f : List (List Int)) (w : World) (hf : RowsAt w a f) (hm : ∀ z ∈ f, z.length ≤ 1000) :
    Calls Try.prog 28 #[.slice a f.length cap] w fun e w' => e = .returned (.tuple #[.int .i64 (fiL f).length, .bool (fiB f), .int .i64 (vfam f)]) ∧ Below w.heap.size w w' := by
  have HV := Lib.hid (validateF_any a cap f w hf hm)
  unfold fiL fiB
  by_cases hz : vfam f = 0
  · obtain ⟨h70, hs⟩ := vfam_ok hz
    rw [if_pos hz, if_pos hz, hz]
    rw [hz] at HV
    have H1 := Lib.hid (fun w h => masksOf_any a cap f w h hs (by omega))
    have H2 := Lib.hid (fun b c w h => firstM_any b c (fmM f) w h (fmM_lt hs) (by rw [fmM_len]; omega))
    have H3 := Lib.hid (fun w => size_mask (firM (fmM f)) (firM_lt _) w)
    have HR := Lib.hid hf
    generalize firM (fmM f) = M at H2 H3 ⊢
    generalize ((numsM M).length : Int) = R at H3 ⊢
    generalize firB (fmM f) = B at H2 ⊢
    clear hz hs hf hm
    go_enter Try.func28, Try.ntmps28
    go_wp2_with fail
    refine HV.out.mono ?_
    rintro e w1 ⟨rfl, hB⟩
    have HB := Lib.hid hB
    clear hB
    go_wp2_with fail
    refine (H1.out _ (HR.out.below HB.out (Nat.le_refl _))).mono ?_
    rintro e w2 ⟨a2, c2, rfl, h2, hB2⟩
    have HM2 := Lib.hid h2
    have HB2 := Lib.hid (HB.out.trans (hB2.mono HB.out.size))
    clear h2 hB2
    go_wp2_with fail
    refine (H2.out _ _ _ HM2.out).mono ?_
    rintro e w3 ⟨rfl, hB3⟩
    have HB3 := Lib.hid (HB2.out.trans (hB3.mono HB2.out.size))
    clear hB3
    go_wp2_with fail
    refine (H3.out _).mono ?_
    rintro e w4 ⟨rfl, rfl⟩
    go_wp2_with fail
    go_ret3
    exact ⟨rfl, HB3.out⟩
  · rw [if_neg hz, if_neg hz]
    generalize vfam f = co at HV hz
    have hz1 : (co != 0) = true := by simpa using hz
    have hz2 : (co == 0) = false := by simpa using hz
    clear hz hf hm
    go_enter Try.func28, Try.ntmps28
    go_wp2_with fail
    refine HV.out.mono ?_
    rintro e w1 ⟨rfl, hB⟩
    go_wp2_with fail
    go_ret3
    exact ⟨rfl, hB⟩

end Go.Proofs.Ytgoidphamkpmdaa
