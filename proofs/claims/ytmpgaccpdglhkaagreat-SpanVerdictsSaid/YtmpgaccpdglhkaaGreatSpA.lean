/- The methods of intervals: contracts. -/
import Derived.Test.YtmpgaccpdglhkaaGreatRunC
import Derived.Test.YtmpgaccpdglhkaaGreatPlain
import Derived.Test.YtmpgaccpdglhkaaGreatConB
set_option linter.unusedVariables false
set_option linter.unusedSimpArgs false
namespace Go.Proofs.YtmpgaccpdglhkaaGreat
open Go.RowKit Tinker

/-- A range as a value. -/
def gv (x : Rg) : Value := .agg #[.int .i64 x.lo, .int .i64 x.hi]
theorem ret2g {a b c d : Int} (h1 : a = c) (h2 : b = d) : Ending.returned (.agg #[.int .i64 a, .int .i64 b]) = Ending.returned (.agg #[.int .i64 c, .int .i64 d]) := by rw [h1, h2]

set_option maxHeartbeats 400000 in
theorem ivEmpty_any (x : Rg) (w : World) : Calls Tryz.prog 46 #[gv x] w fun e w' => e = .returned (.bool (decide (x.hi < x.lo))) ∧ Below w.heap.size w w' := by
  unfold gv
  go_enter Tryz.func46, Tryz.ntmps46
  go_wp2
  go_ret
  exact ⟨ret_bool rfl, (Below.refl _ _).alloc (Nat.le_refl _) _⟩

set_option maxHeartbeats 400000 in
theorem ivWidth_any (x : Rg) (w : World) (h : okG x = true) : Calls Tryz.prog 30 #[gv x] w fun e w' => e = .returned (.int .i64 (x.hi - x.lo)) ∧ Below w.heap.size w w' := by
  unfold gv
  obtain ⟨⟨h1, h2⟩, ⟨h3, h4⟩, h5⟩ := okG_iff.1 h
  clear h
  go_enter Tryz.func30, Tryz.ntmps30
  go_wp2
  go_ret
  exact ⟨rfl, (Below.refl _ _).alloc (Nat.le_refl _) _⟩

set_option maxHeartbeats 400000 in
theorem ivWithin_any (x y : Rg) (w : World) : Calls Tryz.prog 35 #[gv x, gv y] w fun e w' => e = .returned (.bool (subG x y)) ∧ Below w.heap.size w w' := by
  unfold gv subG
  by_cases h1 : y.lo ≤ x.lo
  · go_enter Tryz.func35, Tryz.ntmps35
    go_wp2
    all_goals go_ret
    all_goals exact ⟨ret_bool (by simp [*]), ((Below.refl _ _).alloc (Nat.le_refl _) _).alloc (by simp) _⟩
  · have h2 : x.lo < y.lo := by omega
    rw [show (decide (y.lo ≤ x.lo) && decide (x.hi ≤ y.hi)) = false by simp [h1]]
    go_enter Tryz.func35, Tryz.ntmps35
    go_wp2
    all_goals go_ret
    all_goals exact ⟨rfl, ((Below.refl _ _).alloc (Nat.le_refl _) _).alloc (by simp) _⟩

set_option maxHeartbeats 400000 in
theorem ivOnly_any (n : Int) (w : World) : Calls Tryz.prog 103 #[.int .i64 n] w fun e w' => e = .returned (gv ⟨n, n⟩) ∧ Below w.heap.size w w' := by
  unfold gv
  go_enter Tryz.func103, Tryz.ntmps103
  go_wp2
  exact bodyPost_ret (results_cell_row (p := 2) (ty := 48) rfl _ _ (w.heap.size) 48 _ (0, 0) _ (by rfl) (hp_new (by simp)) Tryz.underlying48 rfl (by kernel_rfl)) rfl ⟨rfl, ((Below.refl _ _).alloc (by first | exact Nat.le_refl _ | (simp only [World.size_alloc]; omega)) _)⟩

set_option maxHeartbeats 1000000 in
theorem ivHull_any (x y : Rg) (w : World) : Calls Tryz.prog 78 #[gv x, gv y] w fun e w' => e = .returned (gv (hullG x y)) ∧ Below w.heap.size w w' := by
  unfold gv hullG
  go_enter Tryz.func78, Tryz.ntmps78
  go_wp2
  all_goals exact bodyPost_ret (results_cell_row (p := 4) (ty := 48) rfl _ _ ((w.heap.size + 1 + 1)) 48 _ (0, 0) _ (by rfl) (hp_new (by simp)) Tryz.underlying48 rfl (by kernel_rfl)) rfl ⟨ret2g (by omega) (by omega), ((((Below.refl _ _).alloc (by first | exact Nat.le_refl _ | (simp only [World.size_alloc]; omega)) _).alloc (by first | exact Nat.le_refl _ | (simp only [World.size_alloc]; omega)) _).alloc (by first | exact Nat.le_refl _ | (simp only [World.size_alloc]; omega)) _)⟩

set_option maxHeartbeats 1000000 in
theorem ivPlus_any (x y : Rg) (w : World) (hx : okG x = true) (hy : okG y = true) : Calls Tryz.prog 99 #[gv x, gv y] w fun e w' => e = .returned (gv ⟨x.lo + y.lo, x.hi + y.hi⟩) ∧ Below w.heap.size w w' := by
  unfold gv
  obtain ⟨⟨a1, a2⟩, ⟨a3, a4⟩, a5⟩ := okG_iff.1 hx
  obtain ⟨⟨b1, b2⟩, ⟨b3, b4⟩, b5⟩ := okG_iff.1 hy
  clear hx hy
  go_enter Tryz.func99, Tryz.ntmps99
  go_wp2
  all_goals exact bodyPost_ret (results_cell_row (p := 4) (ty := 48) rfl _ _ ((w.heap.size + 1 + 1)) 48 _ (0, 0) _ (by rfl) (hp_new (by simp)) Tryz.underlying48 rfl (by kernel_rfl)) rfl ⟨ret2g (by omega) (by omega), ((((Below.refl _ _).alloc (by first | exact Nat.le_refl _ | (simp only [World.size_alloc]; omega)) _).alloc (by first | exact Nat.le_refl _ | (simp only [World.size_alloc]; omega)) _).alloc (by first | exact Nat.le_refl _ | (simp only [World.size_alloc]; omega)) _)⟩

set_option maxHeartbeats 1000000 in
theorem ivMinus_any (x y : Rg) (w : World) (hx : okG x = true) (hy : okG y = true) : Calls Tryz.prog 100 #[gv x, gv y] w fun e w' => e = .returned (gv ⟨x.lo - y.hi, x.hi - y.lo⟩) ∧ Below w.heap.size w w' := by
  unfold gv
  obtain ⟨⟨a1, a2⟩, ⟨a3, a4⟩, a5⟩ := okG_iff.1 hx
  obtain ⟨⟨b1, b2⟩, ⟨b3, b4⟩, b5⟩ := okG_iff.1 hy
  clear hx hy
  go_enter Tryz.func100, Tryz.ntmps100
  go_wp2
  all_goals exact bodyPost_ret (results_cell_row (p := 4) (ty := 48) rfl _ _ ((w.heap.size + 1 + 1)) 48 _ (0, 0) _ (by rfl) (hp_new (by simp)) Tryz.underlying48 rfl (by kernel_rfl)) rfl ⟨ret2g (by omega) (by omega), ((((Below.refl _ _).alloc (by first | exact Nat.le_refl _ | (simp only [World.size_alloc]; omega)) _).alloc (by first | exact Nat.le_refl _ | (simp only [World.size_alloc]; omega)) _).alloc (by first | exact Nat.le_refl _ | (simp only [World.size_alloc]; omega)) _)⟩

set_option maxHeartbeats 1000000 in
theorem ivLeast_any (x y : Rg) (w : World) : Calls Tryz.prog 101 #[gv x, gv y] w fun e w' => e = .returned (gv ⟨min x.lo y.lo, min x.hi y.hi⟩) ∧ Below w.heap.size w w' := by
  unfold gv
  go_enter Tryz.func101, Tryz.ntmps101
  go_wp2
  all_goals exact bodyPost_ret (results_cell_row (p := 4) (ty := 48) rfl _ _ ((w.heap.size + 1 + 1)) 48 _ (0, 0) _ (by rfl) (hp_new (by simp)) Tryz.underlying48 rfl (by kernel_rfl)) rfl ⟨ret2g (by omega) (by omega), ((((Below.refl _ _).alloc (by first | exact Nat.le_refl _ | (simp only [World.size_alloc]; omega)) _).alloc (by first | exact Nat.le_refl _ | (simp only [World.size_alloc]; omega)) _).alloc (by first | exact Nat.le_refl _ | (simp only [World.size_alloc]; omega)) _)⟩

set_option maxHeartbeats 1000000 in
theorem ivGreatest_any (x y : Rg) (w : World) : Calls Tryz.prog 102 #[gv x, gv y] w fun e w' => e = .returned (gv ⟨max x.lo y.lo, max x.hi y.hi⟩) ∧ Below w.heap.size w w' := by
  unfold gv
  go_enter Tryz.func102, Tryz.ntmps102
  go_wp2
  all_goals exact bodyPost_ret (results_cell_row (p := 4) (ty := 48) rfl _ _ ((w.heap.size + 1 + 1)) 48 _ (0, 0) _ (by rfl) (hp_new (by simp)) Tryz.underlying48 rfl (by kernel_rfl)) rfl ⟨ret2g (by omega) (by omega), ((((Below.refl _ _).alloc (by first | exact Nat.le_refl _ | (simp only [World.size_alloc]; omega)) _).alloc (by first | exact Nat.le_refl _ | (simp only [World.size_alloc]; omega)) _).alloc (by first | exact Nat.le_refl _ | (simp only [World.size_alloc]; omega)) _)⟩

set_option maxHeartbeats 1000000 in
theorem ivCut_any (x : Rg) (w : World) : Calls Tryz.prog 81 #[gv x] w fun e w' => e = .returned (gv (cutG x)) ∧ Below w.heap.size w w' := by
  unfold gv cutG
  go_enter Tryz.func81, Tryz.ntmps81
  go_wp2_with fail
  go_region_with (go_at_call 104; refine (cut_any _ _).mono ?_; rintro e wa ⟨rfl, rfl⟩)
  all_goals go_wp2_with fail
  all_goals exact bodyPost_ret (results_cell_row (p := 2) (ty := 48) rfl _ _ (w.heap.size + 1) 48 _ (0, 0) _ (by rfl) (hp_drew (hp_new (by simp))) Tryz.underlying48 rfl (by kernel_rfl)) rfl ⟨rfl, (((Below.refl _ _).alloc (Nat.le_refl _) _).alloc (by simp) _).drew⟩

end Go.Proofs.YtmpgaccpdglhkaaGreat
