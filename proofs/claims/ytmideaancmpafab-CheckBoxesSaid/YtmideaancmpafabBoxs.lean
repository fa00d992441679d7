/- CheckBoxes: the walk. -/
import Derived.Test.YtmideaancmpafabChkF
set_option linter.unusedVariables false
set_option linter.unusedSimpArgs false
namespace Go.Proofs.Ytmideaancmpafab
open Go.RowKit Tinker

set_option maxRecDepth 100000 in
set_option maxHeartbeats 4000000 in
theorem checkBoxes_walk (a : Option Addr) (ca : Nat) (lo : List Int) (b : Option Addr) (cb : Nat) (hi : List Int) (out mn mx : Int) (w : World) (hl : IntsAt w a lo) (hc : a = none → ca = 0) (hh : IntsAt w b hi) (hd : b = none → cb = 0) :
    Calls Try.prog 10 #[.agg #[.slice a lo.length ca, .slice b hi.length cb, .int .i64 out, .int .i64 mn, .int .i64 mx]] w fun e w' => e = .returned (.bool true) ∧ Below w.heap.size w w' := by
  clear hc hd
  have HW := Lib.hid (fun w => wide_any a b ca cb lo.length hi.length out mn mx w)
  have HI := Lib.hid (boxC_new (a := a) (b := b) (n := lo.length) (m := hi.length) (ca := ca) (cb := cb) (out := out) (mn := mn) (mx := mx) w)
  have x0 := HI.out.c0
  have x1 := HI.out.c1
  have x2 := HI.out.c2
  have x3 := HI.out.c3
  have x4 := HI.out.c4
  by_cases hbig : 100 < lo.length ∨ 100 < hi.length
  · rw [show decide (100 < lo.length ∨ 100 < hi.length) = true by simpa using hbig] at HW
    clear hbig
    go_enter Try.func10, Try.ntmps10
    go_wp2_with fail
    refine (HW.out _).mono ?_
    rintro e w1 ⟨rfl, hB⟩
    have HI1 := Lib.hid (HI.out.low hB)
    clear hB HI
    go_wp2_with fail
    refine (known2_true _).mono ?_
    rintro e w2 ⟨rfl, hB⟩
    go_wp2_with fail
    go_ret
    exact ⟨rfl, (HI1.out.low hB).below⟩
  · have m1 : lo.length ≤ 1000 := by omega
    have m2 : hi.length ≤ 1000 := by omega
    rw [show decide (100 < lo.length ∨ 100 < hi.length) = false by simpa using hbig] at HW
    have C1 := Lib.hid (fun w hl hh => box_C a b ca cb lo hi out mn mx w hl hh m1 m2)
    have C2 := Lib.hid (fun w hl hh => rBox_any a b ca cb lo hi out mn mx w hl hh)
    have C3 := Lib.hid (fun w hl hh => validateContract_C a b ca cb lo hi out mn mx w hl hh m1 m2)
    have C4 := Lib.hid (fun w hl hh => rValidateContract_any a b ca cb lo hi out mn mx w hl hh)
    generalize boxN lo hi out mn mx = V at C1 C2
    generalize vcon lo hi out mn mx = c at C1 C2 C3 C4
    have vv : (V == V) = true := by simp
    have cc : (c == c) = true := by simp
    clear hbig m1 m2
    go_enter Try.func10, Try.ntmps10
    go_wp2_with fail
    refine (HW.out _).mono ?_
    rintro e w1 ⟨rfl, hB⟩
    have HI1 := Lib.hid (HI.out.low hB)
    clear hB HI x0 x1 x2 x3 x4
    have x0 := HI1.out.c0
    have x1 := HI1.out.c1
    have x2 := HI1.out.c2
    have x3 := HI1.out.c3
    have x4 := HI1.out.c4
    go_wp2_with fail
    refine (C1.out _ (hl.below HI1.out.below (Nat.le_refl _)) (hh.below HI1.out.below (Nat.le_refl _))).mono ?_
    rintro e w2 ⟨rfl, hB⟩
    have HI2 := Lib.hid (HI1.out.low hB)
    clear hB HI1 x0 x1 x2 x3 x4
    have x0 := HI2.out.c0
    have x1 := HI2.out.c1
    have x2 := HI2.out.c2
    have x3 := HI2.out.c3
    have x4 := HI2.out.c4
    go_wp2_with fail
    refine (C2.out _ (hl.below HI2.out.below (Nat.le_refl _)) (hh.below HI2.out.below (Nat.le_refl _))).mono ?_
    rintro e w3 ⟨rfl, hB⟩
    have hI := HI2.out.low hB
    clear hB HI2 x0 x1 x2 x3 x4
    have x0 := hI.c0
    have x1 := hI.c1
    have x2 := hI.c2
    have x3 := hI.c3
    have x4 := hI.c4
    replace hI := hI.drew
    go_wp2_with fail
    go_region_held3 (fun w' => w'.cell? ⟨w.heap.size, 0, none⟩ = some (.slice a lo.length ca) ∧ w'.cell? ⟨w.heap.size, 1, none⟩ = some (.slice b hi.length cb) ∧ w'.cell? ⟨w.heap.size, 2, none⟩ = some (.int .i64 out) ∧ w'.cell? ⟨w.heap.size, 3, none⟩ = some (.int .i64 mn) ∧ w'.cell? ⟨w.heap.size, 4, none⟩ = some (.int .i64 mx)) (first | exact ⟨hI.c0, hI.c1, hI.c2, hI.c3, hI.c4⟩ | go_keep) (first | (go_at_call 48; refine (C3.out _ ?_ ?_).mono ?_; exact (hl.below hI.below (Nat.le_refl _)); exact (hh.below hI.below (Nat.le_refl _)); rintro e wa ⟨rfl, hBa⟩; replace hI := hI.low hBa; clear hBa x0 x1 x2 x3 x4; have x0 := hI.c0; have x1 := hI.c1; have x2 := hI.c2; have x3 := hI.c3; have x4 := hI.c4) | (go_at_call 49; refine (C4.out _ ?_ ?_).mono ?_; exact (hl.below hI.below (Nat.le_refl _)); exact (hh.below hI.below (Nat.le_refl _)); rintro e wa ⟨rfl, hBa⟩; replace hI := hI.low hBa; clear hBa x0 x1 x2 x3 x4; have x0 := hI.c0; have x1 := hI.c1; have x2 := hI.c2; have x3 := hI.c3; have x4 := hI.c4) | (go_at_call 17; refine (known2_true _).mono ?_; rintro e wa ⟨rfl, hBa⟩; replace hI := hI.low hBa; clear hBa))
    all_goals go_wp2_with fail
    all_goals go_ret
    all_goals exact ⟨rfl, hI.below⟩

end Go.Proofs.Ytmideaancmpafab
