/- The methods of intervals: contracts. -/
import Derived.Test.YtmpghapfldjfeaaRunC
import Derived.Test.YtmpghapfldjfeaaPlain
import Derived.Test.YtmpghapfldjfeaaConB
set_option linter.unusedVariables false
set_option linter.unusedSimpArgs false
namespace Go.Proofs.Ytmpghapfldjfeaa
open Go.RowKit Tinker

/-- A range as a value. -/
def gv (x : Rg) : Value := .agg #[.int .i64 x.lo, .int .i64 x.hi]
theorem ret2g {a b c d : Int} (h1 : a = c) (h2 : b = d) : Ending.returned (.agg #[.int .i64 a, .int .i64 b]) = Ending.returned (.agg #[.int .i64 c, .int .i64 d]) := by rw [h1, h2]

set_option maxHeartbeats 400000 in
theorem ivEmpty_any (x : Rg) (w : World) : Calls Try.prog 67 #[gv x] w fun e w' => e = .returned (.bool (decide (x.hi < x.lo))) ∧ Below w.heap.size w w' := by
  unfold gv
  go_enter Try.func67, Try.ntmps67
  go_wp2
  go_ret
  exact ⟨ret_bool rfl, (Below.refl _ _).alloc (Nat.le_refl _) _⟩

set_option maxHeartbeats 400000 in
theorem ivWidth_any (x : Rg) (w : World) (h : okG x = true) : Calls Try.prog 109 #[gv x] w fun e w' => e = .returned (.int .i64 (x.hi - x.lo)) ∧ Below w.heap.size w w' := by
  unfold gv
  obtain ⟨⟨h1, h2⟩, ⟨h3, h4⟩, h5⟩ := okG_iff.1 h
  clear h
  go_enter Try.func109, Try.ntmps109
  go_wp2
  go_ret
  exact ⟨rfl, (Below.refl _ _).alloc (Nat.le_refl _) _⟩

set_option maxHeartbeats 400000 in
theorem ivHas_any (x : Rg) (n : Int) (w : World) : Calls Try.prog 114 #[gv x, .int .i64 n] w fun e w' => e = .returned (.bool (inG x n)) ∧ Below w.heap.size w w' := by
  unfold gv
  go_enter Try.func114, Try.ntmps114
  go_wp2_with fail
  refine (isBetween_any _ _ _ _).mono ?_
  rintro e w' ⟨rfl, rfl⟩
  go_wp2
  go_ret
  exact ⟨rfl, (Below.refl _ _).alloc (Nat.le_refl _) _⟩

set_option maxHeartbeats 400000 in
theorem ivWithin_any (x y : Rg) (w : World) : Calls Try.prog 116 #[gv x, gv y] w fun e w' => e = .returned (.bool (subG x y)) ∧ Below w.heap.size w w' := by
  unfold gv subG
  by_cases h1 : y.lo ≤ x.lo
  · go_enter Try.func116, Try.ntmps116
    go_wp2
    all_goals go_ret
    all_goals exact ⟨ret_bool (by simp [*]), ((Below.refl _ _).alloc (Nat.le_refl _) _).alloc (by simp) _⟩
  · have h2 : x.lo < y.lo := by omega
    rw [show (decide (y.lo ≤ x.lo) && decide (x.hi ≤ y.hi)) = false by simp [h1]]
    go_enter Try.func116, Try.ntmps116
    go_wp2
    all_goals go_ret
    all_goals exact ⟨rfl, ((Below.refl _ _).alloc (Nat.le_refl _) _).alloc (by simp) _⟩

set_option maxHeartbeats 400000 in
theorem ivOnly_any (n : Int) (w : World) : Calls Try.prog 105 #[.int .i64 n] w fun e w' => e = .returned (gv ⟨n, n⟩) ∧ Below w.heap.size w w' := by
  unfold gv
  go_enter Try.func105, Try.ntmps105
  go_wp2
  exact bodyPost_ret (results_cell_row (p := 2) (ty := 76) rfl _ _ (w.heap.size) 76 _ (0, 0) _ (by rfl) (hp_new (by simp)) Try.underlying76 rfl (by kernel_rfl)) rfl ⟨rfl, ((Below.refl _ _).alloc (by first | exact Nat.le_refl _ | (simp only [World.size_alloc]; omega)) _)⟩

set_option maxHeartbeats 1000000 in
theorem ivHull_any (x y : Rg) (w : World) : Calls Try.prog 70 #[gv x, gv y] w fun e w' => e = .returned (gv (hullG x y)) ∧ Below w.heap.size w w' := by
  unfold gv hullG
  go_enter Try.func70, Try.ntmps70
  go_wp2
  all_goals exact bodyPost_ret (results_cell_row (p := 4) (ty := 76) rfl _ _ ((w.heap.size + 1 + 1)) 76 _ (0, 0) _ (by rfl) (hp_new (by simp)) Try.underlying76 rfl (by kernel_rfl)) rfl ⟨ret2g (by omega) (by omega), ((((Below.refl _ _).alloc (by first | exact Nat.le_refl _ | (simp only [World.size_alloc]; omega)) _).alloc (by first | exact Nat.le_refl _ | (simp only [World.size_alloc]; omega)) _).alloc (by first | exact Nat.le_refl _ | (simp only [World.size_alloc]; omega)) _)⟩

set_option maxHeartbeats 1000000 in
theorem ivMeet_any (x y : Rg) (w : World) : Calls Try.prog 75 #[gv x, gv y] w fun e w' => e = .returned (gv (meetG x y)) ∧ Below w.heap.size w w' := by
  unfold gv meetG
  go_enter Try.func75, Try.ntmps75
  go_wp2
  all_goals exact bodyPost_ret (results_cell_row (p := 4) (ty := 76) rfl _ _ ((w.heap.size + 1 + 1)) 76 _ (0, 0) _ (by rfl) (hp_new (by simp)) Try.underlying76 rfl (by kernel_rfl)) rfl ⟨ret2g (by omega) (by omega), ((((Below.refl _ _).alloc (by first | exact Nat.le_refl _ | (simp only [World.size_alloc]; omega)) _).alloc (by first | exact Nat.le_refl _ | (simp only [World.size_alloc]; omega)) _).alloc (by first | exact Nat.le_refl _ | (simp only [World.size_alloc]; omega)) _)⟩

set_option maxHeartbeats 1000000 in
theorem ivPlus_any (x y : Rg) (w : World) (hx : okG x = true) (hy : okG y = true) : Calls Try.prog 160 #[gv x, gv y] w fun e w' => e = .returned (gv ⟨x.lo + y.lo, x.hi + y.hi⟩) ∧ Below w.heap.size w w' := by
  unfold gv
  obtain ⟨⟨a1, a2⟩, ⟨a3, a4⟩, a5⟩ := okG_iff.1 hx
  obtain ⟨⟨b1, b2⟩, ⟨b3, b4⟩, b5⟩ := okG_iff.1 hy
  clear hx hy
  go_enter Try.func160, Try.ntmps160
  go_wp2
  all_goals exact bodyPost_ret (results_cell_row (p := 4) (ty := 76) rfl _ _ ((w.heap.size + 1 + 1)) 76 _ (0, 0) _ (by rfl) (hp_new (by simp)) Try.underlying76 rfl (by kernel_rfl)) rfl ⟨ret2g (by omega) (by omega), ((((Below.refl _ _).alloc (by first | exact Nat.le_refl _ | (simp only [World.size_alloc]; omega)) _).alloc (by first | exact Nat.le_refl _ | (simp only [World.size_alloc]; omega)) _).alloc (by first | exact Nat.le_refl _ | (simp only [World.size_alloc]; omega)) _)⟩

set_option maxHeartbeats 1000000 in
theorem ivMinus_any (x y : Rg) (w : World) (hx : okG x = true) (hy : okG y = true) : Calls Try.prog 161 #[gv x, gv y] w fun e w' => e = .returned (gv ⟨x.lo - y.hi, x.hi - y.lo⟩) ∧ Below w.heap.size w w' := by
  unfold gv
  obtain ⟨⟨a1, a2⟩, ⟨a3, a4⟩, a5⟩ := okG_iff.1 hx
  obtain ⟨⟨b1, b2⟩, ⟨b3, b4⟩, b5⟩ := okG_iff.1 hy
  clear hx hy
  go_enter Try.func161, Try.ntmps161
  go_wp2
  all_goals exact bodyPost_ret (results_cell_row (p := 4) (ty := 76) rfl _ _ ((w.heap.size + 1 + 1)) 76 _ (0, 0) _ (by rfl) (hp_new (by simp)) Try.underlying76 rfl (by kernel_rfl)) rfl ⟨ret2g (by omega) (by omega), ((((Below.refl _ _).alloc (by first | exact Nat.le_refl _ | (simp only [World.size_alloc]; omega)) _).alloc (by first | exact Nat.le_refl _ | (simp only [World.size_alloc]; omega)) _).alloc (by first | exact Nat.le_refl _ | (simp only [World.size_alloc]; omega)) _)⟩

set_option maxHeartbeats 1000000 in
theorem ivLeast_any (x y : Rg) (w : World) : Calls Try.prog 162 #[gv x, gv y] w fun e w' => e = .returned (gv ⟨min x.lo y.lo, min x.hi y.hi⟩) ∧ Below w.heap.size w w' := by
  unfold gv
  go_enter Try.func162, Try.ntmps162
  go_wp2
  all_goals exact bodyPost_ret (results_cell_row (p := 4) (ty := 76) rfl _ _ ((w.heap.size + 1 + 1)) 76 _ (0, 0) _ (by rfl) (hp_new (by simp)) Try.underlying76 rfl (by kernel_rfl)) rfl ⟨ret2g (by omega) (by omega), ((((Below.refl _ _).alloc (by first | exact Nat.le_refl _ | (simp only [World.size_alloc]; omega)) _).alloc (by first | exact Nat.le_refl _ | (simp only [World.size_alloc]; omega)) _).alloc (by first | exact Nat.le_refl _ | (simp only [World.size_alloc]; omega)) _)⟩

set_option maxHeartbeats 1000000 in
theorem ivGreatest_any (x y : Rg) (w : World) : Calls Try.prog 163 #[gv x, gv y] w fun e w' => e = .returned (gv ⟨max x.lo y.lo, max x.hi y.hi⟩) ∧ Below w.heap.size w w' := by
  unfold gv
  go_enter Try.func163, Try.ntmps163
  go_wp2
  all_goals exact bodyPost_ret (results_cell_row (p := 4) (ty := 76) rfl _ _ ((w.heap.size + 1 + 1)) 76 _ (0, 0) _ (by rfl) (hp_new (by simp)) Try.underlying76 rfl (by kernel_rfl)) rfl ⟨ret2g (by omega) (by omega), ((((Below.refl _ _).alloc (by first | exact Nat.le_refl _ | (simp only [World.size_alloc]; omega)) _).alloc (by first | exact Nat.le_refl _ | (simp only [World.size_alloc]; omega)) _).alloc (by first | exact Nat.le_refl _ | (simp only [World.size_alloc]; omega)) _)⟩

set_option maxHeartbeats 1000000 in
theorem ivCut_any (x : Rg) (w : World) : Calls Try.prog 151 #[gv x] w fun e w' => e = .returned (gv (cutG x)) ∧ Below w.heap.size w w' := by
  unfold gv cutG
  go_enter Try.func151, Try.ntmps151
  go_wp2_with fail
  go_region_with (go_at_call 120; refine (cut_any _ _).mono ?_; rintro e wa ⟨rfl, rfl⟩)
  all_goals go_wp2_with fail
  all_goals exact bodyPost_ret (results_cell_row (p := 2) (ty := 76) rfl _ _ (w.heap.size + 1) 76 _ (0, 0) _ (by rfl) (hp_drew (hp_new (by simp))) Try.underlying76 rfl (by kernel_rfl)) rfl ⟨rfl, (((Below.refl _ _).alloc (Nat.le_refl _) _).alloc (by simp) _).drew⟩

end Go.Proofs.Ytmpghapfldjfeaa
