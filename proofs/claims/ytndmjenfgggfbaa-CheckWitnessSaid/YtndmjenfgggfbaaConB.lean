/- ValidateContract, Box: package check and the document's answers. -/
import Derived.Test.YtndmjenfgggfbaaConA
set_option linter.unusedVariables false
set_option linter.unusedSimpArgs false
namespace Go.Proofs.Ytndmjenfgggfbaa
open Go.RowKit Tinker

theorem vcon_no {lo hi : List Int} {out mn mx : Int} (h : isCon lo hi out mn mx = false) : vcon lo hi out mn mx = 1 := by unfold vcon; rw [h]; rfl
theorem vcon_yes {lo hi : List Int} {out mn mx : Int} (h : isCon lo hi out mn mx = true) : vcon lo hi out mn mx = if 400 < prd lo hi 4 then 3 else 0 := by unfold vcon; rw [h]; rfl

set_option maxRecDepth 100000 in
set_option maxHeartbeats 2000000 in
theorem validateContract_C (a b : Option Addr) (ca cb : Nat) (lo hi : List Int) (out mn mx : Int) (w : World) (hl : IntsAt w a lo) (hh : IntsAt w b hi) (hm : lo.length ≤ 1000) (hm2 : hi.length ≤ 1000) :
    Calls Try.prog 50 #[.agg #[.slice a lo.length ca, .slice b hi.length cb, .int .i64 out, .int .i64 mn, .int .i64 mx]] w fun e w' => e = .returned (.int .i64 (vcon lo hi out mn mx)) ∧ Below w.heap.size w w' := by
  have HI := Lib.hid (boxC_new (a := a) (b := b) (n := lo.length) (m := hi.length) (ca := ca) (cb := cb) (out := out) (mn := mn) (mx := mx) w)
  have HC := Lib.hid (fun w hl hh => isContract_any a b ca cb lo hi out mn mx w hl hh hm hm2)
  have x0 := HI.out.c0
  have x1 := HI.out.c1
  have x2 := HI.out.c2
  have x3 := HI.out.c3
  have x4 := HI.out.c4
  cases hc : isCon lo hi out mn mx
  · rw [vcon_no hc]
    rw [hc] at HC
    clear hc
    go_enter Try.func50, Try.ntmps50
    go_wp2_with fail
    refine (HC.out _ (hl.below HI.out.below (Nat.le_refl _)) (hh.below HI.out.below (Nat.le_refl _))).mono ?_
    rintro e w1 ⟨rfl, hB⟩
    go_wp2_with fail
    go_ret
    exact ⟨rfl, HI.out.below.trans (hB.mono HI.out.below.size)⟩
  · rw [vcon_yes hc]
    rw [hc] at HC
    obtain ⟨h1, h2, h3, _⟩ := isCon_ok hc
    have HS := Lib.hid (fun w hl hh => size_any a b ca cb lo hi out mn mx w hl hh h1 h2 h3)
    generalize prd lo hi 4 = P at HS
    clear hc h1 h2 h3
    go_enter Try.func50, Try.ntmps50
    go_wp2_with fail
    refine (HC.out _ (hl.below HI.out.below (Nat.le_refl _)) (hh.below HI.out.below (Nat.le_refl _))).mono ?_
    rintro e w1 ⟨rfl, hB⟩
    have HI1 := Lib.hid (HI.out.low hB)
    clear HI hB x0 x1 x2 x3 x4
    have x0 := HI1.out.c0
    have x1 := HI1.out.c1
    have x2 := HI1.out.c2
    have x3 := HI1.out.c3
    have x4 := HI1.out.c4
    go_wp2_with fail
    refine (HS.out _ (hl.below HI1.out.below (Nat.le_refl _)) (hh.below HI1.out.below (Nat.le_refl _))).mono ?_
    rintro e w2 ⟨rfl, hB⟩
    have HI2 := Lib.hid (HI1.out.low hB)
    clear HI1 hB x0 x1 x2 x3 x4
    by_cases hp : 400 < P
    · go_wp2_with fail
      go_ret
      exact ⟨rfl, HI2.out.below⟩
    · go_wp2_with fail
      go_ret
      exact ⟨rfl, HI2.out.below⟩

set_option maxRecDepth 100000 in
set_option maxHeartbeats 2000000 in
theorem box_C (a b : Option Addr) (ca cb : Nat) (lo hi : List Int) (out mn mx : Int) (w : World) (hl : IntsAt w a lo) (hh : IntsAt w b hi) (hm : lo.length ≤ 1000) (hm2 : hi.length ≤ 1000) :
    Calls Try.prog 48 #[.agg #[.slice a lo.length ca, .slice b hi.length cb, .int .i64 out, .int .i64 mn, .int .i64 mx]] w fun e w' => e = .returned (.tuple #[.int .i64 (boxN lo hi out mn mx), .int .i64 (vcon lo hi out mn mx)]) ∧ Below w.heap.size w w' := by
  have HI := Lib.hid (boxC_new (a := a) (b := b) (n := lo.length) (m := hi.length) (ca := ca) (cb := cb) (out := out) (mn := mn) (mx := mx) w)
  have HV := Lib.hid (fun w hl hh => validateContract_C a b ca cb lo hi out mn mx w hl hh hm hm2)
  have x0 := HI.out.c0
  have x1 := HI.out.c1
  have x2 := HI.out.c2
  have x3 := HI.out.c3
  have x4 := HI.out.c4
  by_cases hv : vcon lo hi out mn mx = 0
  · have hc : isCon lo hi out mn mx = true := by
      cases h : isCon lo hi out mn mx
      · rw [vcon_no h] at hv; cases hv
      · rfl
    obtain ⟨h1, h2, h3, _⟩ := isCon_ok hc
    have HS := Lib.hid (fun w hl hh => size_any a b ca cb lo hi out mn mx w hl hh h1 h2 h3)
    unfold boxN
    rw [if_pos hv, hv]
    rw [hv] at HV
    generalize prd lo hi 4 = P at HS
    clear hc h1 h2 h3 hv
    go_enter Try.func48, Try.ntmps48
    go_wp2_with fail
    refine (HV.out _ (hl.below HI.out.below (Nat.le_refl _)) (hh.below HI.out.below (Nat.le_refl _))).mono ?_
    rintro e w1 ⟨rfl, hB⟩
    have HI1 := Lib.hid (HI.out.low hB)
    clear HI hB x0 x1 x2 x3 x4
    have x0 := HI1.out.c0
    have x1 := HI1.out.c1
    have x2 := HI1.out.c2
    have x3 := HI1.out.c3
    have x4 := HI1.out.c4
    go_wp2_with fail
    refine (HS.out _ (hl.below HI1.out.below (Nat.le_refl _)) (hh.below HI1.out.below (Nat.le_refl _))).mono ?_
    rintro e w2 ⟨rfl, hB⟩
    go_wp2_with fail
    go_ret2
    exact ⟨rfl, (HI1.out.low hB).below⟩
  · unfold boxN
    rw [if_neg hv]
    have hv1 : (vcon lo hi out mn mx != 0) = true := by simpa using hv
    have hv2 : (vcon lo hi out mn mx == 0) = false := by simpa using hv
    generalize vcon lo hi out mn mx = c at HV hv1 hv2
    clear hv
    go_enter Try.func48, Try.ntmps48
    go_wp2_with fail
    refine (HV.out _ (hl.below HI.out.below (Nat.le_refl _)) (hh.below HI.out.below (Nat.le_refl _))).mono ?_
    rintro e w1 ⟨rfl, hB⟩
    go_wp2_with fail
    go_ret2
    exact ⟨rfl, (HI.out.low hB).below⟩

end Go.Proofs.Ytndmjenfgggfbaa
