/- Comparing scores: cmp.Compare, compare, the closure of Rank; Less of the document: contracts. -/
import Derived.Test.YtndmjenfgggfbaaRkA
set_option linter.unusedVariables false
set_option linter.unusedSimpArgs false
namespace Go.Proofs.Ytndmjenfgggfbaa
open Go.RowKit Tinker

/-- What cmp.Compare answers. -/
def cmpI (a b : Int) : Int := if a < b then -1 else if b < a then 1 else 0
theorem cmpI_neg {a b : Int} : cmpI a b < 0 ↔ a < b := by unfold cmpI; split <;> (try split) <;> omega
theorem cmpI_pos {a b : Int} : 0 < cmpI a b ↔ b < a := by unfold cmpI; split <;> (try split) <;> omega
theorem isNaN_any (a : Int) (w : World) : Calls Try.prog 125 #[.int .i64 a] w fun e w' => e = .returned (.bool false) ∧ w = w' := by
  have h : (a != a) = false := by simp
  go_enter Try.func125, Try.ntmps125
  go_wp2
  go_ret
  exact ⟨rfl, rfl⟩
theorem cmpCompare_any (a b : Int) (w : World) : Calls Try.prog 110 #[.int .i64 a, .int .i64 b] w fun e w' => e = .returned (.int .i64 (cmpI a b)) ∧ w = w' := by
  unfold cmpI
  by_cases h1 : a < b
  · rw [if_pos h1]
    go_enter Try.func110, Try.ntmps110
    go_wp2_with ((go_at_call 125; refine (isNaN_any _ _).mono ?_; rintro e wa ⟨rfl, rfl⟩))
    go_ret
    exact ⟨rfl, rfl⟩
  · by_cases h2 : b < a
    · rw [if_neg h1, if_pos h2]
      go_enter Try.func110, Try.ntmps110
      go_wp2_with ((go_at_call 125; refine (isNaN_any _ _).mono ?_; rintro e wa ⟨rfl, rfl⟩))
      go_ret
      exact ⟨rfl, rfl⟩
    · rw [if_neg h1, if_neg h2]
      go_enter Try.func110, Try.ntmps110
      go_wp2_with ((go_at_call 125; refine (isNaN_any _ _).mono ?_; rintro e wa ⟨rfl, rfl⟩))
      go_ret
      exact ⟨rfl, rfl⟩

/-- Bounds of a fraction. -/
def okQ (q : Int × Int) : Prop := 0 ≤ q.1 ∧ q.1 ≤ 1000 ∧ 0 < q.2 ∧ q.2 ≤ 1000
theorem mul_ok {a b : Int} (h1 : 0 ≤ a) (h2 : a ≤ 1000) (h3 : 0 ≤ b) (h4 : b ≤ 1000) : 0 ≤ a * b ∧ a * b ≤ 1000000 :=
  ⟨Int.mul_nonneg h1 h3, Int.le_trans (Int.mul_le_mul h2 h4 h3 (by omega)) (by omega)⟩
theorem compare_any (p q : Int × Int) (hp : okQ p) (hq : okQ q) (w : World) :
    Calls Try.prog 78 #[.agg #[.int .i64 p.1, .int .i64 p.2], .agg #[.int .i64 q.1, .int .i64 q.2]] w fun e w' => e = .returned (.int .i64 (cmpI (p.1 * q.2) (q.1 * p.2))) ∧ Below w.heap.size w w' := by
  obtain ⟨p1, p2⟩ := p
  obtain ⟨q1, q2⟩ := q
  obtain ⟨h1, h2, h3, h4⟩ := hp
  obtain ⟨h5, h6, h7, h8⟩ := hq
  simp only at *
  have m1 := mul_ok h1 h2 (Int.le_of_lt h7) h8
  have m2 := mul_ok h5 h6 (Int.le_of_lt h3) h4
  have e1 : IntKind.i64.wrap (p1 * q2) = p1 * q2 := by rw [IntKind.wrap_i64]; omega
  have e2 : IntKind.i64.wrap (q1 * p2) = q1 * p2 := by rw [IntKind.wrap_i64]; omega
  have HC := Lib.hid (fun w => cmpCompare_any (p1 * q2) (q1 * p2) w)
  generalize cmpI (p1 * q2) (q1 * p2) = R at HC ⊢
  go_enter Try.func78, Try.ntmps78
  go_wp2_with fail
  refine (HC.out _).mono ?_
  rintro e w2 ⟨rfl, rfl⟩
  go_wp2_with fail
  go_ret
  exact ⟨rfl, ((Below.refl _ _).alloc (Nat.le_refl _) _).alloc (by simp) _⟩
theorem less_any (p q : Int × Int) (hp : okQ p) (hq : okQ q) (w : World) :
    Calls Try.prog 79 #[.agg #[.int .i64 p.1, .int .i64 p.2], .agg #[.int .i64 q.1, .int .i64 q.2]] w fun e w' => e = .returned (.bool (ltQ p q)) ∧ Below w.heap.size w w' := by
  obtain ⟨p1, p2⟩ := p
  obtain ⟨q1, q2⟩ := q
  obtain ⟨h1, h2, h3, h4⟩ := hp
  obtain ⟨h5, h6, h7, h8⟩ := hq
  simp only at *
  have m1 := mul_ok h1 h2 (Int.le_of_lt h7) h8
  have m2 := mul_ok h5 h6 (Int.le_of_lt h3) h4
  have e1 : IntKind.i64.wrap (p1 * q2) = p1 * q2 := by rw [IntKind.wrap_i64]; omega
  have e2 : IntKind.i64.wrap (q1 * p2) = q1 * p2 := by rw [IntKind.wrap_i64]; omega
  go_enter Try.func79, Try.ntmps79
  go_wp2_with fail
  go_ret
  exact ⟨rfl, ((Below.refl _ _).alloc (Nat.le_refl _) _).alloc (by simp) _⟩

theorem scQ_ok {ps : List L} {ts : List T} {i : Nat} (hi : i < ps.length) (ht : ts.length ≤ 8) : okQ (scQ ps ts i) := by
  have h1 := scQ_nonneg ps ts i
  have h2 := scQ_pos ps ts i
  have h3 := scQ_le (ts := ts) hi
  have h4 : (scQ ps ts i).2 ≤ 1000 := by
    have hd : scD ps ts i ≤ 1000 := by
      rw [(scQ_is hi).2]
      have a1 := fT_le ps ts ts.length
      have a2 := nT_le true ps ts i ts.length
      omega
    show ((scD ps ts i / Nat.gcd (scN ps ts i) (scD ps ts i) : Nat) : Int) ≤ 1000
    have := Nat.div_le_self (scD ps ts i) (Nat.gcd (scN ps ts i) (scD ps ts i))
    omega
  exact ⟨h1, by omega, h2, h4⟩

end Go.Proofs.Ytndmjenfgggfbaa
