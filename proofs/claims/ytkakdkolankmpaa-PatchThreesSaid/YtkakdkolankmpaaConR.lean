/- ValidateContract, Box: the document's answers. -/
import Derived.Test.YtkakdkolankmpaaConB
set_option linter.unusedVariables false
set_option linter.unusedSimpArgs false
namespace Go.Proofs.Ytkakdkolankmpaa
open Go.RowKit Tinker

/-- A number, at most 401. -/
def cap4 (n : Int) : Int := if 401 < n then 401 else n
theorem cap4_step {p f : Int} (hp : 1 ≤ p) (hf : 1 ≤ f) : cap4 (cap4 p * f) = cap4 (p * f) := by
  unfold cap4
  by_cases h : 401 < p
  · rw [if_pos h]
    have h1 : 401 * 1 ≤ 401 * f := Int.mul_le_mul_of_nonneg_left hf (by omega)
    have h2 : 401 * f ≤ p * f := Int.mul_le_mul_of_nonneg_right (by omega) (by omega)
    by_cases h3 : 401 < 401 * f
    · rw [if_pos h3, if_pos (by omega)]
    · rw [if_neg h3]
      have h4 : 401 * f = 401 := by omega
      rw [h4]
      by_cases h5 : 401 < p * f
      · rw [if_pos h5]
      · rw [if_neg h5]; omega
  · rw [if_neg h]
theorem cap4_le {p : Int} (hp : 1 ≤ p) : 1 ≤ cap4 p ∧ cap4 p ≤ 401 := by unfold cap4; split <;> omega
theorem cap4_big {p : Int} : 400 < cap4 p ↔ 400 < p := by unfold cap4; split <;> omega
theorem cap4_small {p : Int} (h : ¬ 400 < p) : cap4 p = p := by unfold cap4; rw [if_neg (by omega)]

set_option maxHeartbeats 400000 in
theorem large2_any (a : Option Addr) (n cap : Nat) (w : World) : Calls Try.prog 74 #[.slice a n cap] w fun e w' => e = .returned (.bool (decide ((100 : Int) < (n : Int)))) ∧ w = w' := by
  go_enter Try.func74, Try.ntmps74
  go_wp2
  all_goals go_ret
  all_goals exact ⟨rfl, rfl⟩

set_option maxRecDepth 100000 in
set_option maxHeartbeats 1000000 in
theorem wide_any (a b : Option Addr) (ca cb n m : Nat) (out mn mx : Int) (w : World) :
    Calls Try.prog 30 #[.agg #[.slice a n ca, .slice b m cb, .int .i64 out, .int .i64 mn, .int .i64 mx]] w fun e w' => e = .returned (.bool (decide (100 < n ∨ 100 < m))) ∧ Below w.heap.size w w' := by
  have HI := Lib.hid (boxC_new (a := a) (b := b) (n := n) (m := m) (ca := ca) (cb := cb) (out := out) (mn := mn) (mx := mx) w)
  have HA := Lib.hid (fun w => large2_any a n ca w)
  have HB := Lib.hid (fun w => large2_any b m cb w)
  have x0 := HI.out.c0
  have x1 := HI.out.c1
  by_cases h1 : 100 < n
  · rw [show decide ((100 : Int) < (n : Int)) = true by simp; omega] at HA
    go_enter Try.func30, Try.ntmps30
    go_wp2_with fail
    refine (HA.out _).mono ?_
    rintro e w1 ⟨rfl, rfl⟩
    go_wp2_with fail
    go_ret
    exact ⟨ret_bool (by simp; omega), HI.out.below⟩
  · rw [show decide ((100 : Int) < (n : Int)) = false by simp; omega] at HA
    go_enter Try.func30, Try.ntmps30
    go_wp2_with fail
    refine (HA.out _).mono ?_
    rintro e w1 ⟨rfl, rfl⟩
    go_wp2_with fail
    refine (HB.out _).mono ?_
    rintro e w1 ⟨rfl, rfl⟩
    go_wp2_with fail
    go_ret
    exact ⟨ret_bool (by rw [decide_eq_decide]; omega), HI.out.below⟩

end Go.Proofs.Ytkakdkolankmpaa
