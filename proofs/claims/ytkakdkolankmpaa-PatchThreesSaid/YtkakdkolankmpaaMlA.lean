/- A line merged of two: plain mathematics, the code's contract. -/
import Derived.Test.YtkakdkolankmpaaTnD
import Derived.Test.YtkakdkolankmpaaPtZ
set_option linter.unusedVariables false
set_option linter.unusedSimpArgs false
namespace Go.Proofs.Ytkakdkolankmpaa
open Go.RowKit Tinker

/-- What becomes of a line that two changed, and whether they changed it in other ways. -/
def mlL (p a b : L) : L := if eqL b p then a else if eqL a p || eqL a b then b else p
def mlB (p a b : L) : Bool := !eqL b p && !(eqL a p || eqL a b)
theorem mlB_comm (p a b : L) : mlB p a b = mlB p b a := by
  have h : eqL a b = eqL b a := by
    rw [Bool.eq_iff_iff, eqL_iff, eqL_iff]
    exact ⟨fun h => h.symm, fun h => h.symm⟩
  unfold mlB
  rw [h]
  cases eqL b p <;> cases eqL a p <;> cases eqL b a <;> rfl
theorem mlL_comm (p a b : L) : mlL p a b = mlL p b a := by
  unfold mlL
  cases h1 : eqL b p
  · cases h2 : eqL a p
    · cases h3 : eqL a b
      · have h4 : eqL b a = false := by
          cases h5 : eqL b a
          · rfl
          · have := eqL_iff.1 h5; rw [this, eqL_self] at h3; cases h3
        rw [h4]
        (try rfl)
      · have := eqL_iff.1 h3
        subst this
        rw [eqL_self]
        (try rfl)
    · rfl
  · have h1' := eqL_iff.1 h1
    cases h2 : eqL a p
    · rfl
    · rw [eqL_iff.1 h2, h1']
      (try rfl)
theorem mlL_base (p a : L) : mlL p a p = a ∧ mlB p a p = false := by
  unfold mlL mlB
  rw [eqL_self]
  exact ⟨rfl, rfl⟩

theorem below4 (w : World) (o1 o2 o3 o4 : Obj) : Below w.heap.size w ((((w.alloc o1).alloc o2).alloc o3).alloc o4) :=
  ((((Below.refl _ _).alloc (Nat.le_refl _) _).alloc (by simp) _).alloc (by simp; omega) _).alloc (by simp; omega) _

set_option maxRecDepth 100000 in
set_option maxHeartbeats 8000000 in
theorem mergeLine_any (p a b : L) (w : World) : Calls Try.prog 60 #[lv p, lv a, lv b] w fun e w' => e = .returned (.tuple #[lv (mlL p a b), .bool (mlB p a b)]) ∧ Below w.heap.size w w' := by
  cases h1 : eqL b p
  · cases h2 : eqL a p
    · cases h3 : eqL a b
      · have HB1 := Lib.hid (show mlL p a b = p by unfold mlL; rw [h1, h2, h3]; rfl)
        have HB2 := Lib.hid (show mlB p a b = true by unfold mlB; rw [h1, h2, h3]; rfl)
        rw [HB1.out, HB2.out]
        have N1 := Lib.hid (ne_facts h1)
        have N2 := Lib.hid (ne_facts h2)
        have N3 := Lib.hid (ne_facts h3)
        clear h1 h2 h3 HB1 HB2
        unfold lv
        rcases N1.out with x1 | ⟨x1, x2⟩ | ⟨x1, x2, x3⟩ | ⟨x1, x2, x3, x4⟩
        all_goals rcases N2.out with y1 | ⟨y1, y2⟩ | ⟨y1, y2, y3⟩ | ⟨y1, y2, y3, y4⟩
        all_goals rcases N3.out with z1 | ⟨z1, z2⟩ | ⟨z1, z2, z3⟩ | ⟨z1, z2, z3, z4⟩
        all_goals go_enter Try.func60, Try.ntmps60
        all_goals go_wp2_with fail
        all_goals refine bodyPost_ret (v := .tuple #[.agg #[.int .i64 p.op, .int .i64 p.to, .int .i64 p.a, .int .i64 p.b], .bool true]) ?_ rfl ⟨rfl, below4 _ _ _ _ _⟩
        all_goals exact results_cell_row_tmp4 (p := 6) (ty := 39) rfl _ _ (w.heap.size + 1 + 1 + 1) 39 #[.int .i64 p.op, .int .i64 p.to, .int .i64 p.a, .int .i64 p.b] (0, 0) (by rfl) (hp_new (by simp)) Try.underlying39 size_ln4 rfl
      · have HB1 := Lib.hid (show mlL p a b = b by unfold mlL; rw [h1, h2, h3]; rfl)
        have HB2 := Lib.hid (show mlB p a b = false by unfold mlB; rw [h1, h2, h3]; rfl)
        rw [HB1.out, HB2.out]
        have N1 := Lib.hid (ne_facts h1)
        have h := eqL_iff.1 h3
        subst h
        clear h1 h2 h3 HB1 HB2
        unfold lv
        rcases N1.out with x1 | ⟨x1, x2⟩ | ⟨x1, x2, x3⟩ | ⟨x1, x2, x3, x4⟩
        all_goals go_enter Try.func60, Try.ntmps60
        all_goals go_wp2_with fail
        all_goals refine bodyPost_ret (v := .tuple #[.agg #[.int .i64 a.op, .int .i64 a.to, .int .i64 a.a, .int .i64 a.b], .bool false]) ?_ rfl ⟨rfl, below4 _ _ _ _ _⟩
        all_goals exact results_cell_row_tmp4 (p := 6) (ty := 39) rfl _ _ (w.heap.size + 1 + 1 + 1) 39 #[.int .i64 a.op, .int .i64 a.to, .int .i64 a.a, .int .i64 a.b] (0, 0) (by rfl) (hp_new (by simp)) Try.underlying39 size_ln4 rfl
    · have HB1 := Lib.hid (show mlL p a b = b by unfold mlL; rw [h1, h2]; rfl)
      have HB2 := Lib.hid (show mlB p a b = false by unfold mlB; rw [h1, h2]; rfl)
      rw [HB1.out, HB2.out]
      have N1 := Lib.hid (ne_facts h1)
      have h := eqL_iff.1 h2
      subst h
      clear h1 h2 HB1 HB2
      unfold lv
      rcases N1.out with x1 | ⟨x1, x2⟩ | ⟨x1, x2, x3⟩ | ⟨x1, x2, x3, x4⟩
      all_goals go_enter Try.func60, Try.ntmps60
      all_goals go_wp2_with fail
      all_goals refine bodyPost_ret (v := .tuple #[.agg #[.int .i64 b.op, .int .i64 b.to, .int .i64 b.a, .int .i64 b.b], .bool false]) ?_ rfl ⟨rfl, below4 _ _ _ _ _⟩
      all_goals exact results_cell_row_tmp4 (p := 6) (ty := 39) rfl _ _ (w.heap.size + 1 + 1 + 1) 39 #[.int .i64 b.op, .int .i64 b.to, .int .i64 b.a, .int .i64 b.b] (0, 0) (by rfl) (hp_new (by simp)) Try.underlying39 size_ln4 rfl
  · have HB1 := Lib.hid (show mlL p a b = a by unfold mlL; rw [h1]; rfl)
    have HB2 := Lib.hid (show mlB p a b = false by unfold mlB; rw [h1]; rfl)
    rw [HB1.out, HB2.out]
    have h := eqL_iff.1 h1
    subst h
    clear h1 HB1 HB2
    unfold lv
    go_enter Try.func60, Try.ntmps60
    go_wp2_with fail
    refine bodyPost_ret (v := .tuple #[.agg #[.int .i64 a.op, .int .i64 a.to, .int .i64 a.a, .int .i64 a.b], .bool false]) ?_ rfl ⟨rfl, below4 _ _ _ _ _⟩
    exact results_cell_row_tmp4 (p := 6) (ty := 39) rfl _ _ (w.heap.size + 1 + 1 + 1) 39 #[.int .i64 a.op, .int .i64 a.to, .int .i64 a.a, .int .i64 a.b] (0, 0) (by rfl) (hp_new (by simp)) Try.underlying39 size_ln4 rfl

end Go.Proofs.Ytkakdkolankmpaa
