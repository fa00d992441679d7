/- Several texts in one. -/
import Derived.Test.YtikblaebfpdngaaGreatRunC
import Derived.Test.YtikblaebfpdngaaGreatSliceC
/- ValidateLine, Reads, Writes, and their answers of the document: contracts. -/
set_option linter.unusedVariables false
set_option linter.unusedSimpArgs false
namespace Go.Proofs.YtikblaebfpdngaaGreat
open Go.RowKit Tinker

/-- The code of a line. -/
def vl (l : L) : Int := if isLn l then 0 else 1

set_option maxHeartbeats 400000 in
theorem validateLine_any (l : L) (w : World) : Calls Tryz.prog 117 #[lv l] w fun e w' => e = .returned (.int .i64 (vl l)) ∧ Below w.heap.size w w' := by
  have H := Lib.hid (fun w => isLine_any l w)
  unfold lv at H ⊢
  cases hv : isLn l
  · have HV := Lib.hid (show vl l = 1 by unfold vl; rw [hv]; rfl)
    rw [HV.out]
    rw [hv] at H
    clear hv
    go_enter Tryz.func117, Tryz.ntmps117
    go_wp2_with fail
    refine (H.out _).mono ?_
    rintro e w1 ⟨rfl, hB⟩
    go_wp2_with fail
    go_ret
    exact ⟨rfl, ((Below.refl _ _).alloc (Nat.le_refl _) _).trans (hB.mono (by simp))⟩
  · have HV := Lib.hid (show vl l = 0 by unfold vl; rw [hv]; rfl)
    rw [HV.out]
    rw [hv] at H
    clear hv
    go_enter Tryz.func117, Tryz.ntmps117
    go_wp2_with fail
    refine (H.out _).mono ?_
    rintro e w1 ⟨rfl, hB⟩
    go_wp2_with fail
    go_ret
    exact ⟨rfl, ((Below.refl _ _).alloc (Nat.le_refl _) _).trans (hB.mono (by simp))⟩

set_option maxHeartbeats 400000 in
theorem within_any (n lo hi : Int) (w : World) :
    Calls Tryz.prog 124 #[.int .i64 n, .int .i64 lo, .int .i64 hi] w fun e w' => e = .returned (.bool (btw n lo hi)) ∧ w = w' := by
  by_cases h : lo ≤ n
  · by_cases h2 : n ≤ hi
    · have hb : btw n lo hi = true := btw_true.2 ⟨h, h2⟩
      rw [hb]
      clear hb
      go_enter Tryz.func124, Tryz.ntmps124
      go_wp2
      go_ret
      exact ⟨rfl, rfl⟩
    · have hb : btw n lo hi = false := btw_false (.inr (by omega))
      rw [hb]
      clear hb
      go_enter Tryz.func124, Tryz.ntmps124
      go_wp2
      go_ret
      exact ⟨rfl, rfl⟩
  · have hb : btw n lo hi = false := btw_false (.inl (by omega))
    rw [hb]
    clear hb
    go_enter Tryz.func124, Tryz.ntmps124
    go_wp2
    go_ret
    exact ⟨rfl, rfl⟩

set_option maxHeartbeats 400000 in
theorem isRegister_any (n : Int) (w : World) : Calls Tryz.prog 123 #[.int .i64 n] w fun e w' => e = .returned (.bool (isReg n)) ∧ w = w' := by
  go_enter Tryz.func123, Tryz.ntmps123
  go_wp2_with (go_at_call 124; refine (within_any _ _ _ _).mono ?_; rintro e w' ⟨rfl, rfl⟩)
  go_ret
  exact ⟨rfl, rfl⟩

theorem isLn_0 (td a b : Int) : isLn ⟨0, td, a, b⟩ = (td == 0 && (a == 0 && b == 0)) := by simp [isLn, Bool.and_assoc]
theorem isLn_1 (td a b : Int) : isLn ⟨1, td, a, b⟩ = (isReg td && (btw a (-9) 9 && b == 0)) := by simp [isLn, Bool.and_assoc]
theorem isLn_2 (td a b : Int) : isLn ⟨2, td, a, b⟩ = (isReg td && (isReg a && b == 0)) := by simp [isLn, Bool.and_assoc]
theorem isLn_36 (op td a b : Int) (h1 : 3 ≤ op) (h2 : op ≤ 6) : isLn ⟨op, td, a, b⟩ = (isReg td && (isReg a && isReg b)) := by
  unfold isLn
  rw [if_neg (by show ¬ op = 0; omega), if_neg (by show ¬ op = 1; omega), if_neg (by show ¬ op = 2; omega), if_pos ⟨h1, h2⟩]
  simp [Bool.and_assoc]
theorem isLn_7 (td a b : Int) : isLn ⟨7, td, a, b⟩ = (btw td 1 8 && (isReg a && isReg b)) := by simp [isLn, Bool.and_assoc]

set_option maxRecDepth 100000 in
set_option maxHeartbeats 1000000 in
theorem rIsLine_0 (td a b : Int) (w : World) : Calls Tryz.prog 102 #[.agg #[.int .i64 0, .int .i64 td, .int .i64 a, .int .i64 b]] w fun e w' => e = .returned (.bool (isLn ⟨0, td, a, b⟩)) ∧ Below w.heap.size w w' := by
  rw [isLn_0 td a b]
  cases h1 : (td == 0)
  · go_enter Tryz.func102, Tryz.ntmps102
    go_wp2_with (first | (go_at_call 123; refine (isRegister_any _ _).mono ?_; rintro e w' ⟨rfl, rfl⟩) | (go_at_call 124; refine (within_any _ _ _ _).mono ?_; rintro e w' ⟨rfl, rfl⟩))
    go_ret
    exact ⟨rfl, (Below.refl _ _).alloc (Nat.le_refl _) _⟩
  · cases h2 : (a == 0)
    · go_enter Tryz.func102, Tryz.ntmps102
      go_wp2_with (first | (go_at_call 123; refine (isRegister_any _ _).mono ?_; rintro e w' ⟨rfl, rfl⟩) | (go_at_call 124; refine (within_any _ _ _ _).mono ?_; rintro e w' ⟨rfl, rfl⟩))
      go_ret
      exact ⟨rfl, (Below.refl _ _).alloc (Nat.le_refl _) _⟩
    · go_enter Tryz.func102, Tryz.ntmps102
      go_wp2_with (first | (go_at_call 123; refine (isRegister_any _ _).mono ?_; rintro e w' ⟨rfl, rfl⟩) | (go_at_call 124; refine (within_any _ _ _ _).mono ?_; rintro e w' ⟨rfl, rfl⟩))
      go_ret
      exact ⟨rfl, (Below.refl _ _).alloc (Nat.le_refl _) _⟩

set_option maxRecDepth 100000 in
set_option maxHeartbeats 1000000 in
theorem rIsLine_1 (td a b : Int) (w : World) : Calls Tryz.prog 102 #[.agg #[.int .i64 1, .int .i64 td, .int .i64 a, .int .i64 b]] w fun e w' => e = .returned (.bool (isLn ⟨1, td, a, b⟩)) ∧ Below w.heap.size w w' := by
  rw [isLn_1 td a b]
  cases h1 : (isReg td)
  · go_enter Tryz.func102, Tryz.ntmps102
    go_wp2_with (first | (go_at_call 123; refine (isRegister_any _ _).mono ?_; rintro e w' ⟨rfl, rfl⟩) | (go_at_call 124; refine (within_any _ _ _ _).mono ?_; rintro e w' ⟨rfl, rfl⟩))
    go_ret
    exact ⟨rfl, (Below.refl _ _).alloc (Nat.le_refl _) _⟩
  · cases h2 : (btw a (-9) 9)
    · go_enter Tryz.func102, Tryz.ntmps102
      go_wp2_with (first | (go_at_call 123; refine (isRegister_any _ _).mono ?_; rintro e w' ⟨rfl, rfl⟩) | (go_at_call 124; refine (within_any _ _ _ _).mono ?_; rintro e w' ⟨rfl, rfl⟩))
      go_ret
      exact ⟨rfl, (Below.refl _ _).alloc (Nat.le_refl _) _⟩
    · go_enter Tryz.func102, Tryz.ntmps102
      go_wp2_with (first | (go_at_call 123; refine (isRegister_any _ _).mono ?_; rintro e w' ⟨rfl, rfl⟩) | (go_at_call 124; refine (within_any _ _ _ _).mono ?_; rintro e w' ⟨rfl, rfl⟩))
      go_ret
      exact ⟨rfl, (Below.refl _ _).alloc (Nat.le_refl _) _⟩

set_option maxRecDepth 100000 in
set_option maxHeartbeats 1000000 in
theorem rIsLine_2 (td a b : Int) (w : World) : Calls Tryz.prog 102 #[.agg #[.int .i64 2, .int .i64 td, .int .i64 a, .int .i64 b]] w fun e w' => e = .returned (.bool (isLn ⟨2, td, a, b⟩)) ∧ Below w.heap.size w w' := by
  rw [isLn_2 td a b]
  cases h1 : (isReg td)
  · go_enter Tryz.func102, Tryz.ntmps102
    go_wp2_with (first | (go_at_call 123; refine (isRegister_any _ _).mono ?_; rintro e w' ⟨rfl, rfl⟩) | (go_at_call 124; refine (within_any _ _ _ _).mono ?_; rintro e w' ⟨rfl, rfl⟩))
    go_ret
    exact ⟨rfl, (Below.refl _ _).alloc (Nat.le_refl _) _⟩
  · cases h2 : (isReg a)
    · go_enter Tryz.func102, Tryz.ntmps102
      go_wp2_with (first | (go_at_call 123; refine (isRegister_any _ _).mono ?_; rintro e w' ⟨rfl, rfl⟩) | (go_at_call 124; refine (within_any _ _ _ _).mono ?_; rintro e w' ⟨rfl, rfl⟩))
      go_ret
      exact ⟨rfl, (Below.refl _ _).alloc (Nat.le_refl _) _⟩
    · go_enter Tryz.func102, Tryz.ntmps102
      go_wp2_with (first | (go_at_call 123; refine (isRegister_any _ _).mono ?_; rintro e w' ⟨rfl, rfl⟩) | (go_at_call 124; refine (within_any _ _ _ _).mono ?_; rintro e w' ⟨rfl, rfl⟩))
      go_ret
      exact ⟨rfl, (Below.refl _ _).alloc (Nat.le_refl _) _⟩

set_option maxRecDepth 100000 in
set_option maxHeartbeats 1000000 in
theorem rIsLine_3 (td a b : Int) (w : World) : Calls Tryz.prog 102 #[.agg #[.int .i64 3, .int .i64 td, .int .i64 a, .int .i64 b]] w fun e w' => e = .returned (.bool (isLn ⟨3, td, a, b⟩)) ∧ Below w.heap.size w w' := by
  rw [isLn_36 3 td a b (by decide) (by decide)]
  cases h1 : (isReg td)
  · go_enter Tryz.func102, Tryz.ntmps102
    go_wp2_with (first | (go_at_call 123; refine (isRegister_any _ _).mono ?_; rintro e w' ⟨rfl, rfl⟩) | (go_at_call 124; refine (within_any _ _ _ _).mono ?_; rintro e w' ⟨rfl, rfl⟩))
    go_ret
    exact ⟨rfl, (Below.refl _ _).alloc (Nat.le_refl _) _⟩
  · cases h2 : (isReg a)
    · go_enter Tryz.func102, Tryz.ntmps102
      go_wp2_with (first | (go_at_call 123; refine (isRegister_any _ _).mono ?_; rintro e w' ⟨rfl, rfl⟩) | (go_at_call 124; refine (within_any _ _ _ _).mono ?_; rintro e w' ⟨rfl, rfl⟩))
      go_ret
      exact ⟨rfl, (Below.refl _ _).alloc (Nat.le_refl _) _⟩
    · go_enter Tryz.func102, Tryz.ntmps102
      go_wp2_with (first | (go_at_call 123; refine (isRegister_any _ _).mono ?_; rintro e w' ⟨rfl, rfl⟩) | (go_at_call 124; refine (within_any _ _ _ _).mono ?_; rintro e w' ⟨rfl, rfl⟩))
      go_ret
      exact ⟨rfl, (Below.refl _ _).alloc (Nat.le_refl _) _⟩

set_option maxRecDepth 100000 in
set_option maxHeartbeats 1000000 in
theorem rIsLine_4 (td a b : Int) (w : World) : Calls Tryz.prog 102 #[.agg #[.int .i64 4, .int .i64 td, .int .i64 a, .int .i64 b]] w fun e w' => e = .returned (.bool (isLn ⟨4, td, a, b⟩)) ∧ Below w.heap.size w w' := by
  rw [isLn_36 4 td a b (by decide) (by decide)]
  cases h1 : (isReg td)
  · go_enter Tryz.func102, Tryz.ntmps102
    go_wp2_with (first | (go_at_call 123; refine (isRegister_any _ _).mono ?_; rintro e w' ⟨rfl, rfl⟩) | (go_at_call 124; refine (within_any _ _ _ _).mono ?_; rintro e w' ⟨rfl, rfl⟩))
    go_ret
    exact ⟨rfl, (Below.refl _ _).alloc (Nat.le_refl _) _⟩
  · cases h2 : (isReg a)
    · go_enter Tryz.func102, Tryz.ntmps102
      go_wp2_with (first | (go_at_call 123; refine (isRegister_any _ _).mono ?_; rintro e w' ⟨rfl, rfl⟩) | (go_at_call 124; refine (within_any _ _ _ _).mono ?_; rintro e w' ⟨rfl, rfl⟩))
      go_ret
      exact ⟨rfl, (Below.refl _ _).alloc (Nat.le_refl _) _⟩
    · go_enter Tryz.func102, Tryz.ntmps102
      go_wp2_with (first | (go_at_call 123; refine (isRegister_any _ _).mono ?_; rintro e w' ⟨rfl, rfl⟩) | (go_at_call 124; refine (within_any _ _ _ _).mono ?_; rintro e w' ⟨rfl, rfl⟩))
      go_ret
      exact ⟨rfl, (Below.refl _ _).alloc (Nat.le_refl _) _⟩

set_option maxRecDepth 100000 in
set_option maxHeartbeats 1000000 in
theorem rIsLine_5 (td a b : Int) (w : World) : Calls Tryz.prog 102 #[.agg #[.int .i64 5, .int .i64 td, .int .i64 a, .int .i64 b]] w fun e w' => e = .returned (.bool (isLn ⟨5, td, a, b⟩)) ∧ Below w.heap.size w w' := by
  rw [isLn_36 5 td a b (by decide) (by decide)]
  cases h1 : (isReg td)
  · go_enter Tryz.func102, Tryz.ntmps102
    go_wp2_with (first | (go_at_call 123; refine (isRegister_any _ _).mono ?_; rintro e w' ⟨rfl, rfl⟩) | (go_at_call 124; refine (within_any _ _ _ _).mono ?_; rintro e w' ⟨rfl, rfl⟩))
    go_ret
    exact ⟨rfl, (Below.refl _ _).alloc (Nat.le_refl _) _⟩
  · cases h2 : (isReg a)
    · go_enter Tryz.func102, Tryz.ntmps102
      go_wp2_with (first | (go_at_call 123; refine (isRegister_any _ _).mono ?_; rintro e w' ⟨rfl, rfl⟩) | (go_at_call 124; refine (within_any _ _ _ _).mono ?_; rintro e w' ⟨rfl, rfl⟩))
      go_ret
      exact ⟨rfl, (Below.refl _ _).alloc (Nat.le_refl _) _⟩
    · go_enter Tryz.func102, Tryz.ntmps102
      go_wp2_with (first | (go_at_call 123; refine (isRegister_any _ _).mono ?_; rintro e w' ⟨rfl, rfl⟩) | (go_at_call 124; refine (within_any _ _ _ _).mono ?_; rintro e w' ⟨rfl, rfl⟩))
      go_ret
      exact ⟨rfl, (Below.refl _ _).alloc (Nat.le_refl _) _⟩

set_option maxRecDepth 100000 in
set_option maxHeartbeats 1000000 in
theorem rIsLine_6 (td a b : Int) (w : World) : Calls Tryz.prog 102 #[.agg #[.int .i64 6, .int .i64 td, .int .i64 a, .int .i64 b]] w fun e w' => e = .returned (.bool (isLn ⟨6, td, a, b⟩)) ∧ Below w.heap.size w w' := by
  rw [isLn_36 6 td a b (by decide) (by decide)]
  cases h1 : (isReg td)
  · go_enter Tryz.func102, Tryz.ntmps102
    go_wp2_with (first | (go_at_call 123; refine (isRegister_any _ _).mono ?_; rintro e w' ⟨rfl, rfl⟩) | (go_at_call 124; refine (within_any _ _ _ _).mono ?_; rintro e w' ⟨rfl, rfl⟩))
    go_ret
    exact ⟨rfl, (Below.refl _ _).alloc (Nat.le_refl _) _⟩
  · cases h2 : (isReg a)
    · go_enter Tryz.func102, Tryz.ntmps102
      go_wp2_with (first | (go_at_call 123; refine (isRegister_any _ _).mono ?_; rintro e w' ⟨rfl, rfl⟩) | (go_at_call 124; refine (within_any _ _ _ _).mono ?_; rintro e w' ⟨rfl, rfl⟩))
      go_ret
      exact ⟨rfl, (Below.refl _ _).alloc (Nat.le_refl _) _⟩
    · go_enter Tryz.func102, Tryz.ntmps102
      go_wp2_with (first | (go_at_call 123; refine (isRegister_any _ _).mono ?_; rintro e w' ⟨rfl, rfl⟩) | (go_at_call 124; refine (within_any _ _ _ _).mono ?_; rintro e w' ⟨rfl, rfl⟩))
      go_ret
      exact ⟨rfl, (Below.refl _ _).alloc (Nat.le_refl _) _⟩

set_option maxRecDepth 100000 in
set_option maxHeartbeats 1000000 in
theorem rIsLine_7 (td a b : Int) (w : World) : Calls Tryz.prog 102 #[.agg #[.int .i64 7, .int .i64 td, .int .i64 a, .int .i64 b]] w fun e w' => e = .returned (.bool (isLn ⟨7, td, a, b⟩)) ∧ Below w.heap.size w w' := by
  rw [isLn_7 td a b]
  cases h1 : (btw td 1 8)
  · go_enter Tryz.func102, Tryz.ntmps102
    go_wp2_with (first | (go_at_call 123; refine (isRegister_any _ _).mono ?_; rintro e w' ⟨rfl, rfl⟩) | (go_at_call 124; refine (within_any _ _ _ _).mono ?_; rintro e w' ⟨rfl, rfl⟩))
    go_ret
    exact ⟨rfl, (Below.refl _ _).alloc (Nat.le_refl _) _⟩
  · cases h2 : (isReg a)
    · go_enter Tryz.func102, Tryz.ntmps102
      go_wp2_with (first | (go_at_call 123; refine (isRegister_any _ _).mono ?_; rintro e w' ⟨rfl, rfl⟩) | (go_at_call 124; refine (within_any _ _ _ _).mono ?_; rintro e w' ⟨rfl, rfl⟩))
      go_ret
      exact ⟨rfl, (Below.refl _ _).alloc (Nat.le_refl _) _⟩
    · go_enter Tryz.func102, Tryz.ntmps102
      go_wp2_with (first | (go_at_call 123; refine (isRegister_any _ _).mono ?_; rintro e w' ⟨rfl, rfl⟩) | (go_at_call 124; refine (within_any _ _ _ _).mono ?_; rintro e w' ⟨rfl, rfl⟩))
      go_ret
      exact ⟨rfl, (Below.refl _ _).alloc (Nat.le_refl _) _⟩

set_option maxRecDepth 100000 in
set_option maxHeartbeats 1000000 in
theorem rIsLine_out (op td a b : Int) (w : World) (h : op < 0 ∨ 7 < op) : Calls Tryz.prog 102 #[.agg #[.int .i64 op, .int .i64 td, .int .i64 a, .int .i64 b]] w fun e w' => e = .returned (.bool false) ∧ Below w.heap.size w w' := by
  have e0 : (op == 0) = false := by rw [beq_eq_false_iff_ne]; omega
  have e1 : (op == 1) = false := by rw [beq_eq_false_iff_ne]; omega
  have e2 : (op == 2) = false := by rw [beq_eq_false_iff_ne]; omega
  have e3 : (op == 3) = false := by rw [beq_eq_false_iff_ne]; omega
  have e4 : (op == 4) = false := by rw [beq_eq_false_iff_ne]; omega
  have e5 : (op == 5) = false := by rw [beq_eq_false_iff_ne]; omega
  have e6 : (op == 6) = false := by rw [beq_eq_false_iff_ne]; omega
  have e7 : (op == 7) = false := by rw [beq_eq_false_iff_ne]; omega
  clear h
  go_enter Tryz.func102, Tryz.ntmps102
  go_wp2_with fail
  go_ret
  exact ⟨rfl, (Below.refl _ _).alloc (Nat.le_refl _) _⟩

theorem rIsLine_any (l : L) (w : World) : Calls Tryz.prog 102 #[lv l] w fun e w' => e = .returned (.bool (isLn l)) ∧ Below w.heap.size w w' := by
  by_cases h : l.op < 0 ∨ 7 < l.op
  · rw [isLn_out h]
    exact rIsLine_out l.op l.to l.a l.b w h
  · obtain ⟨op, td, a, b⟩ := l
    simp only at h
    have h : op = 0 ∨ op = 1 ∨ op = 2 ∨ op = 3 ∨ op = 4 ∨ op = 5 ∨ op = 6 ∨ op = 7 := by omega
    rcases h with rfl | rfl | rfl | rfl | rfl | rfl | rfl | rfl
    · exact rIsLine_0 td a b w
    · exact rIsLine_1 td a b w
    · exact rIsLine_2 td a b w
    · exact rIsLine_3 td a b w
    · exact rIsLine_4 td a b w
    · exact rIsLine_5 td a b w
    · exact rIsLine_6 td a b w
    · exact rIsLine_7 td a b w

end Go.Proofs.YtikblaebfpdngaaGreat

/- Reads and Writes, of the code and of the document's answers: contracts. -/
set_option linter.unusedVariables false
set_option linter.unusedSimpArgs false
namespace Go.Proofs.YtikblaebfpdngaaGreat
open Go.RowKit Tinker

/-- What Reads answers. -/
def rdA (l : L) : List Int := if isLn l then plc (rd l) else []
/-- The register of Writes, and whether there is one. -/
def wrN (l : L) : Int := if isLn l && Tinker.wr l then l.to else 0
def wrB (l : L) : Bool := isLn l && Tinker.wr l

theorem ret3 {a : Int} {b : Bool} {c a' : Int} {b' : Bool} {c' : Int} (h1 : a = a') (h2 : b = b') (h3 : c = c') : Ending.returned (.tuple #[.int .i64 a, .bool b, .int .i64 c]) = .returned (.tuple #[.int .i64 a', .bool b', .int .i64 c']) := by rw [h1, h2, h3]

set_option maxHeartbeats 400000 in
theorem rWrites_any (l : L) (w : World) : Calls Tryz.prog 169 #[lv l] w fun e w' => e = .returned (.bool (Tinker.wr l)) ∧ Below w.heap.size w w' := by
  unfold lv
  by_cases h0 : l.op = 0
  · have e0 : (l.op != 0) = false := by simp [h0]
    have e1 : (l.op == 0) = true := by simp [h0]
    have hw : Tinker.wr l = false := by unfold Tinker.wr; rw [e0]; rfl
    rw [hw]
    clear h0 hw
    go_enter Tryz.func169, Tryz.ntmps169
    go_wp2_with fail
    go_ret
    exact ⟨rfl, (Below.refl _ _).alloc (Nat.le_refl _) _⟩
  · have e0 : (l.op != 0) = true := by simpa using h0
    have e1 : (l.op == 0) = false := by simpa using h0
    have hw : Tinker.wr l = (l.op != 7) := by unfold Tinker.wr; rw [e0]; rfl
    rw [hw]
    clear h0 hw
    go_enter Tryz.func169, Tryz.ntmps169
    go_wp2_with fail
    go_ret
    exact ⟨rfl, (Below.refl _ _).alloc (Nat.le_refl _) _⟩

set_option maxHeartbeats 400000 in
theorem rValidateLine_any (l : L) (w : World) : Calls Tryz.prog 103 #[lv l] w fun e w' => e = .returned (.int .i64 (vl l)) ∧ Below w.heap.size w w' := by
  have H := Lib.hid (fun w => rIsLine_any l w)
  unfold lv at H ⊢
  cases hv : isLn l
  · have HV := Lib.hid (show vl l = 1 by unfold vl; rw [hv]; rfl)
    rw [HV.out]
    rw [hv] at H
    clear hv
    go_enter Tryz.func103, Tryz.ntmps103
    go_wp2_with fail
    refine (H.out _).mono ?_
    rintro e w1 ⟨rfl, hB⟩
    go_wp2_with fail
    go_ret
    exact ⟨rfl, ((Below.refl _ _).alloc (Nat.le_refl _) _).trans (hB.mono (by simp))⟩
  · have HV := Lib.hid (show vl l = 0 by unfold vl; rw [hv]; rfl)
    rw [HV.out]
    rw [hv] at H
    clear hv
    go_enter Tryz.func103, Tryz.ntmps103
    go_wp2_with fail
    refine (H.out _).mono ?_
    rintro e w1 ⟨rfl, hB⟩
    go_wp2_with fail
    go_ret
    exact ⟨rfl, ((Below.refl _ _).alloc (Nat.le_refl _) _).trans (hB.mono (by simp))⟩

end Go.Proofs.YtikblaebfpdngaaGreat

/- reads, set, Reads, Writes of the document's answers: contracts. -/
set_option linter.unusedVariables false
set_option linter.unusedSimpArgs false
namespace Go.Proofs.YtikblaebfpdngaaGreat
open Go.RowKit Tinker

theorem mk4 (w : World) : (Instr.makeSlice 75 (.int .i64 4) (.int .i64 4)).run Tryz.prog w = .ok (.slice (some ⟨w.heap.size, 0, none⟩) 4 4) (w.alloc (.cells #[.bool false, .bool false, .bool false, .bool false] 4)) := by kernel_rfl

/-- A new slice of bools. -/
def GivesBools (n : Nat) (bs : List Bool) (w : World) (e : Ending) (w' : World) : Prop := ∃ b, e = .returned (.slice (some ⟨b, 0, none⟩) n n) ∧ w'.heap[b]? = some (.cells (bv bs) 4 (0, 0)) ∧ w.heap.size ≤ b ∧ Below w.heap.size w w'

end Go.Proofs.YtikblaebfpdngaaGreat
