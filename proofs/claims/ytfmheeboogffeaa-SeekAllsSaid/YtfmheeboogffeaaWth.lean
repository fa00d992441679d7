/- withTo, withA, withB, readsTwo of seek: contracts. -/
import Derived.Test.YtfmheeboogffeaaSkA
set_option linter.unusedVariables false
set_option linter.unusedSimpArgs false
namespace Go.Proofs.Ytfmheeboogffeaa
open Go.RowKit Tinker

set_option maxHeartbeats 1000000 in
theorem withA_any (l : L) (n : Int) (w : World) : Calls Try.prog 34 #[lv l, .int .i64 n] w fun e w' => e = .returned (lv ⟨l.op, l.to, n, l.b⟩) ∧ Below w.heap.size w w' := by
  unfold lv
  have HB := Lib.hid (show Below w.heap.size w ((w.alloc (.cells #[.int .i64 l.op, .int .i64 l.to, .int .i64 n, .int .i64 l.b] 23)).alloc (.cells #[.int .i64 l.op, .int .i64 l.to, .int .i64 n, .int .i64 l.b] 23)) from ((Below.refl _ _).alloc (Nat.le_refl _) _).alloc (by simp) _)
  have HN := Lib.hid (show ((w.alloc (.cells #[.int .i64 l.op, .int .i64 l.to, .int .i64 n, .int .i64 l.b] 23)).alloc (.cells #[.int .i64 l.op, .int .i64 l.to, .int .i64 n, .int .i64 l.b] 23)).heap[w.heap.size + 1]? = some (.cells #[.int .i64 l.op, .int .i64 l.to, .int .i64 n, .int .i64 l.b] 23 (0, 0)) from hp_new (by simp))
  go_enter Try.func34, Try.ntmps34
  go_wp2_with fail
  refine bodyPost_ret (v := .agg #[.int .i64 l.op, .int .i64 l.to, .int .i64 n, .int .i64 l.b]) ?_ rfl ⟨rfl, HB.out⟩
  exact results_cell_row (p := 4) (ty := 23) rfl _ _ (w.heap.size + 1) 23 _ (0, 0) _ (by rfl) HN.out Try.underlying23 rfl (by kernel_rfl)

set_option maxHeartbeats 1000000 in
theorem withTo_any (l : L) (n : Int) (w : World) : Calls Try.prog 44 #[lv l, .int .i64 n] w fun e w' => e = .returned (lv ⟨l.op, n, l.a, l.b⟩) ∧ Below w.heap.size w w' := by
  unfold lv
  have HB := Lib.hid (show Below w.heap.size w ((w.alloc (.cells #[.int .i64 l.op, .int .i64 n, .int .i64 l.a, .int .i64 l.b] 23)).alloc (.cells #[.int .i64 l.op, .int .i64 n, .int .i64 l.a, .int .i64 l.b] 23)) from ((Below.refl _ _).alloc (Nat.le_refl _) _).alloc (by simp) _)
  have HN := Lib.hid (show ((w.alloc (.cells #[.int .i64 l.op, .int .i64 n, .int .i64 l.a, .int .i64 l.b] 23)).alloc (.cells #[.int .i64 l.op, .int .i64 n, .int .i64 l.a, .int .i64 l.b] 23)).heap[w.heap.size + 1]? = some (.cells #[.int .i64 l.op, .int .i64 n, .int .i64 l.a, .int .i64 l.b] 23 (0, 0)) from hp_new (by simp))
  go_enter Try.func44, Try.ntmps44
  go_wp2_with fail
  refine bodyPost_ret (v := .agg #[.int .i64 l.op, .int .i64 n, .int .i64 l.a, .int .i64 l.b]) ?_ rfl ⟨rfl, HB.out⟩
  exact results_cell_row (p := 4) (ty := 23) rfl _ _ (w.heap.size + 1) 23 _ (0, 0) _ (by rfl) HN.out Try.underlying23 rfl (by kernel_rfl)

set_option maxHeartbeats 1000000 in
theorem withB_any (l : L) (n : Int) (w : World) : Calls Try.prog 33 #[lv l, .int .i64 n] w fun e w' => e = .returned (lv ⟨l.op, l.to, l.a, n⟩) ∧ Below w.heap.size w w' := by
  unfold lv
  have HB := Lib.hid (show Below w.heap.size w ((w.alloc (.cells #[.int .i64 l.op, .int .i64 l.to, .int .i64 l.a, .int .i64 n] 23)).alloc (.cells #[.int .i64 l.op, .int .i64 l.to, .int .i64 l.a, .int .i64 n] 23)) from ((Below.refl _ _).alloc (Nat.le_refl _) _).alloc (by simp) _)
  have HN := Lib.hid (show ((w.alloc (.cells #[.int .i64 l.op, .int .i64 l.to, .int .i64 l.a, .int .i64 n] 23)).alloc (.cells #[.int .i64 l.op, .int .i64 l.to, .int .i64 l.a, .int .i64 n] 23)).heap[w.heap.size + 1]? = some (.cells #[.int .i64 l.op, .int .i64 l.to, .int .i64 l.a, .int .i64 n] 23 (0, 0)) from hp_new (by simp))
  go_enter Try.func33, Try.ntmps33
  go_wp2_with fail
  refine bodyPost_ret (v := .agg #[.int .i64 l.op, .int .i64 l.to, .int .i64 l.a, .int .i64 n]) ?_ rfl ⟨rfl, HB.out⟩
  exact results_cell_row (p := 4) (ty := 23) rfl _ _ (w.heap.size + 1) 23 _ (0, 0) _ (by rfl) HN.out Try.underlying23 rfl (by kernel_rfl)

set_option maxHeartbeats 1000000 in
theorem readsTwo_any (l : L) (w : World) : Calls Try.prog 32 #[lv l] w fun e w' => e = .returned (.bool (two l)) ∧ Below w.heap.size w w' := by
  have HB := Lib.hid (show Below w.heap.size w (w.alloc (.cells #[.int .i64 l.op, .int .i64 l.to, .int .i64 l.a, .int .i64 l.b] 23)) from (Below.refl _ _).alloc (Nat.le_refl _) _)
  unfold lv
  by_cases h3 : l.op = 3
  · have ht := Lib.hid (show two l = true by unfold two; rw [h3]; rfl)
    have e3 : (l.op == 3) = true := by simpa using h3
    clear h3
    go_enter Try.func32, Try.ntmps32
    go_wp2_with fail
    go_ret
    exact ⟨by rw [ht.out]; rfl, HB.out⟩
  have e3 : (l.op == 3) = false := by simpa using h3
  by_cases h4 : l.op = 4
  · have ht := Lib.hid (show two l = true by unfold two; rw [h4]; rfl)
    have e4 : (l.op == 4) = true := by simpa using h4
    clear h3 h4
    go_enter Try.func32, Try.ntmps32
    go_wp2_with fail
    go_ret
    exact ⟨by rw [ht.out]; rfl, HB.out⟩
  have e4 : (l.op == 4) = false := by simpa using h4
  by_cases h5 : l.op = 5
  · have ht := Lib.hid (show two l = true by unfold two; rw [h5]; rfl)
    have e5 : (l.op == 5) = true := by simpa using h5
    clear h3 h4 h5
    go_enter Try.func32, Try.ntmps32
    go_wp2_with fail
    go_ret
    exact ⟨by rw [ht.out]; rfl, HB.out⟩
  have e5 : (l.op == 5) = false := by simpa using h5
  by_cases h6 : l.op = 6
  · have ht := Lib.hid (show two l = true by unfold two; rw [h6]; rfl)
    have e6 : (l.op == 6) = true := by simpa using h6
    clear h3 h4 h5 h6
    go_enter Try.func32, Try.ntmps32
    go_wp2_with fail
    go_ret
    exact ⟨by rw [ht.out]; rfl, HB.out⟩
  have e6 : (l.op == 6) = false := by simpa using h6
  by_cases h7 : l.op = 7
  · have ht := Lib.hid (show two l = true by unfold two; rw [h7]; rfl)
    have e7 : (l.op == 7) = true := by simpa using h7
    clear h3 h4 h5 h6 h7
    go_enter Try.func32, Try.ntmps32
    go_wp2_with fail
    go_ret
    exact ⟨by rw [ht.out]; rfl, HB.out⟩
  have e7 : (l.op == 7) = false := by simpa using h7
  have ht := Lib.hid (show two l = false by
    unfold two
    rw [Bool.eq_false_iff]
    intro h
    rw [Bool.and_eq_true, decide_eq_true_eq, decide_eq_true_eq] at h
    omega)
  clear h3 h4 h5 h6 h7
  go_enter Try.func32, Try.ntmps32
  go_wp2_with fail
  go_ret
  exact ⟨by rw [ht.out]; rfl, HB.out⟩

end Go.Proofs.Ytfmheeboogffeaa
