/- The methods of intervals: contracts. -/
import Derived.Test.YtmpgaccpdglhkaaRunC
import Derived.Test.YtmpgaccpdglhkaaPlain
import Derived.Test.YtmpgaccpdglhkaaConB
set_option linter.unusedVariables false
set_option linter.unusedSimpArgs false
namespace Go.Proofs.Ytmpgaccpdglhkaa
open Go.RowKit Tinker

/-- A range as a value. -/
def gv (x : Rg) : Value := .agg #[.int .i64 x.lo, .int .i64 x.hi]
theorem ret2g {a b c d : Int} (h1 : a = c) (h2 : b = d) : Ending.returned (.agg #[.int .i64 a, .int .i64 b]) = Ending.returned (.agg #[.int .i64 c, .int .i64 d]) := by rw [h1, h2]

set_option maxHeartbeats 400000 in
theorem ivEmpty_any (x : Rg) (w : World) : Calls Try.prog 110 #[gv x] w fun e w' => e = .returned (.bool (decide (x.hi < x.lo))) ∧ Below w.heap.size w w' := by
  unfold gv
  go_enter Try.func110, Try.ntmps110
  go_wp2
  go_ret
  exact ⟨ret_bool rfl, (Below.refl _ _).alloc (Nat.le_refl _) _⟩

set_option maxHeartbeats 400000 in
theorem ivWidth_any (x : Rg) (w : World) (h : okG x = true) : Calls Try.prog 66 #[gv x] w fun e w' => e = .returned (.int .i64 (x.hi - x.lo)) ∧ Below w.heap.size w w' := by
  unfold gv
  obtain ⟨⟨h1, h2⟩, ⟨h3, h4⟩, h5⟩ := okG_iff.1 h
  clear h
  go_enter Try.func66, Try.ntmps66
  go_wp2
  go_ret
  exact ⟨rfl, (Below.refl _ _).alloc (Nat.le_refl _) _⟩

set_option maxHeartbeats 400000 in
theorem ivHas_any (x : Rg) (n : Int) (w : World) : Calls Try.prog 111 #[gv x, .int .i64 n] w fun e w' => e = .returned (.bool (inG x n)) ∧ Below w.heap.size w w' := by
  unfold gv
  go_enter Try.func111, Try.ntmps111
  go_wp2_with fail
  refine (isBetween_any _ _ _ _).mono ?_
  rintro e w' ⟨rfl, rfl⟩
  go_wp2
  go_ret
  exact ⟨rfl, (Below.refl _ _).alloc (Nat.le_refl _) _⟩

set_option maxHeartbeats 400000 in
theorem ivWithin_any (x y : Rg) (w : World) : Calls Try.prog 93 #[gv x, gv y] w fun e w' => e = .returned (.bool (subG x y)) ∧ Below w.heap.size w w' := by
  unfold gv subG
  by_cases h1 : y.lo ≤ x.lo
  · go_enter Try.func93, Try.ntmps93
    go_wp2
    all_goals go_ret
    all_goals exact ⟨ret_bool (by simp [*]), ((Below.refl _ _).alloc (Nat.le_refl _) _).alloc (by simp) _⟩
  · have h2 : x.lo < y.lo := by omega
    rw [show (decide (y.lo ≤ x.lo) && decide (x.hi ≤ y.hi)) = false by simp [h1]]
    go_enter Try.func93, Try.ntmps93
    go_wp2
    all_goals go_ret
    all_goals exact ⟨rfl, ((Below.refl _ _).alloc (Nat.le_refl _) _).alloc (by simp) _⟩

set_option maxHeartbeats 400000 in
theorem ivOnly_any (n : Int) (w : World) : Calls Try.prog 63 #[.int .i64 n] w fun e w' => e = .returned (gv ⟨n, n⟩) ∧ Below w.heap.size w w' := by
  unfold gv
  go_enter Try.func63, Try.ntmps63
  go_wp2
  exact bodyPost_ret (results_cell_row (p := 2) (ty := 67) rfl _ _ (w.heap.size) 67 _ (0, 0) _ (by rfl) (hp_new (by simp)) Try.underlying67 rfl (by kernel_rfl)) rfl ⟨rfl, ((Below.refl _ _).alloc (by first | exact Nat.le_refl _ | (simp only [World.size_alloc]; omega)) _)⟩

set_option maxHeartbeats 1000000 in
theorem ivHull_any (x y : Rg) (w : World) : Calls Try.prog 82 #[gv x, gv y] w fun e w' => e = .returned (gv (hullG x y)) ∧ Below w.heap.size w w' := by
  unfold gv hullG
  go_enter Try.func82, Try.ntmps82
  go_wp2
  all_goals exact bodyPost_ret (results_cell_row (p := 4) (ty := 67) rfl _ _ ((w.heap.size + 1 + 1)) 67 _ (0, 0) _ (by rfl) (hp_new (by simp)) Try.underlying67 rfl (by kernel_rfl)) rfl ⟨ret2g (by omega) (by omega), ((((Below.refl _ _).alloc (by first | exact Nat.le_refl _ | (simp only [World.size_alloc]; omega)) _).alloc (by first | exact Nat.le_refl _ | (simp only [World.size_alloc]; omega)) _).alloc (by first | exact Nat.le_refl _ | (simp only [World.size_alloc]; omega)) _)⟩

set_option maxHeartbeats 1000000 in
theorem ivPlus_any (x y : Rg) (w : World) (hx : okG x = true) (hy : okG y = true) : Calls Try.prog 135 #[gv x, gv y] w fun e w' => e = .returned (gv ⟨x.lo + y.lo, x.hi + y.hi⟩) ∧ Below w.heap.size w w' := by
  unfold gv
  obtain ⟨⟨a1, a2⟩, ⟨a3, a4⟩, a5⟩ := okG_iff.1 hx
  obtain ⟨⟨b1, b2⟩, ⟨b3, b4⟩, b5⟩ := okG_iff.1 hy
  clear hx hy
  go_enter Try.func135, Try.ntmps135
  go_wp2
  all_goals exact bodyPost_ret (results_cell_row (p := 4) (ty := 67) rfl _ _ ((w.heap.size + 1 + 1)) 67 _ (0, 0) _ (by rfl) (hp_new (by simp)) Try.underlying67 rfl (by kernel_rfl)) rfl ⟨ret2g (by omega) (by omega), ((((Below.refl _ _).alloc (by first | exact Nat.le_refl _ | (simp only [World.size_alloc]; omega)) _).alloc (by first | exact Nat.le_refl _ | (simp only [World.size_alloc]; omega)) _).alloc (by first | exact Nat.le_refl _ | (simp only [World.size_alloc]; omega)) _)⟩

set_option maxHeartbeats 1000000 in
theorem ivMinus_any (x y : Rg) (w : World) (hx : okG x = true) (hy : okG y = true) : Calls Try.prog 136 #[gv x, gv y] w fun e w' => e = .returned (gv ⟨x.lo - y.hi, x.hi - y.lo⟩) ∧ Below w.heap.size w w' := by
  unfold gv
  obtain ⟨⟨a1, a2⟩, ⟨a3, a4⟩, a5⟩ := okG_iff.1 hx
  obtain ⟨⟨b1, b2⟩, ⟨b3, b4⟩, b5⟩ := okG_iff.1 hy
  clear hx hy
  go_enter Try.func136, Try.ntmps136
  go_wp2
  all_goals exact bodyPost_ret (results_cell_row (p := 4) (ty := 67) rfl _ _ ((w.heap.size + 1 + 1)) 67 _ (0, 0) _ (by rfl) (hp_new (by simp)) Try.underlying67 rfl (by kernel_rfl)) rfl ⟨ret2g (by omega) (by omega), ((((Below.refl _ _).alloc (by first | exact Nat.le_refl _ | (simp only [World.size_alloc]; omega)) _).alloc (by first | exact Nat.le_refl _ | (simp only [World.size_alloc]; omega)) _).alloc (by first | exact Nat.le_refl _ | (simp only [World.size_alloc]; omega)) _)⟩

set_option maxHeartbeats 1000000 in
theorem ivLeast_any (x y : Rg) (w : World) : Calls Try.prog 137 #[gv x, gv y] w fun e w' => e = .returned (gv ⟨min x.lo y.lo, min x.hi y.hi⟩) ∧ Below w.heap.size w w' := by
  unfold gv
  go_enter Try.func137, Try.ntmps137
  go_wp2
  all_goals exact bodyPost_ret (results_cell_row (p := 4) (ty := 67) rfl _ _ ((w.heap.size + 1 + 1)) 67 _ (0, 0) _ (by rfl) (hp_new (by simp)) Try.underlying67 rfl (by kernel_rfl)) rfl ⟨ret2g (by omega) (by omega), ((((Below.refl _ _).alloc (by first | exact Nat.le_refl _ | (simp only [World.size_alloc]; omega)) _).alloc (by first | exact Nat.le_refl _ | (simp only [World.size_alloc]; omega)) _).alloc (by first | exact Nat.le_refl _ | (simp only [World.size_alloc]; omega)) _)⟩

set_option maxHeartbeats 1000000 in
theorem ivGreatest_any (x y : Rg) (w : World) : Calls Try.prog 138 #[gv x, gv y] w fun e w' => e = .returned (gv ⟨max x.lo y.lo, max x.hi y.hi⟩) ∧ Below w.heap.size w w' := by
  unfold gv
  go_enter Try.func138, Try.ntmps138
  go_wp2
  all_goals exact bodyPost_ret (results_cell_row (p := 4) (ty := 67) rfl _ _ ((w.heap.size + 1 + 1)) 67 _ (0, 0) _ (by rfl) (hp_new (by simp)) Try.underlying67 rfl (by kernel_rfl)) rfl ⟨ret2g (by omega) (by omega), ((((Below.refl _ _).alloc (by first | exact Nat.le_refl _ | (simp only [World.size_alloc]; omega)) _).alloc (by first | exact Nat.le_refl _ | (simp only [World.size_alloc]; omega)) _).alloc (by first | exact Nat.le_refl _ | (simp only [World.size_alloc]; omega)) _)⟩

set_option maxHeartbeats 1000000 in
theorem ivCut_any (x : Rg) (w : World) : Calls Try.prog 116 #[gv x] w fun e w' => e = .returned (gv (cutG x)) ∧ Below w.heap.size w w' := by
  unfold gv cutG
  go_enter Try.func116, Try.ntmps116
  go_wp2_with fail
  go_region_with (go_at_call 108; refine (cut_any _ _).mono ?_; rintro e wa ⟨rfl, rfl⟩)
  all_goals go_wp2_with fail
  all_goals exact bodyPost_ret (results_cell_row (p := 2) (ty := 67) rfl _ _ (w.heap.size + 1) 67 _ (0, 0) _ (by rfl) (hp_drew (hp_new (by simp))) Try.underlying67 rfl (by kernel_rfl)) rfl ⟨rfl, (((Below.refl _ _).alloc (Nat.le_refl _) _).alloc (by simp) _).drew⟩

end Go.Proofs.Ytmpgaccpdglhkaa
