/- Several texts in one. -/
import Derived.Test.YtikblaebfpdngaaRunC
import Derived.Test.YtikblaebfpdngaaSliceC
/- ValidateLine, Reads, Writes, and their answers of the document: contracts. -/
set_option linter.unusedVariables false
set_option linter.unusedSimpArgs false
namespace Go.Proofs.Ytikblaebfpdngaa
open Go.RowKit Tinker

/-- The code of a line. -/
def vl (l : L) : Int := if isLn l then 0 else 1

set_option maxHeartbeats 400000 in
theorem validateLine_any (l : L) (w : World) : Calls Try.prog 106 #[lv l] w fun e w' => e = .returned (.int .i64 (vl l)) ∧ Below w.heap.size w w' := by
  have H := Lib.hid (fun w => isLine_any l w)
  unfold lv at H ⊢
  cases hv : isLn l
  · have HV := Lib.hid (show vl l = 1 by unfold vl; rw [hv]; rfl)
    rw [HV.out]
    rw [hv] at H
    clear hv
    go_enter Try.func106, Try.ntmps106
    go_wp2_with fail
    refine (H.out _).mono ?_
    rintro e w1 ⟨rfl, hB⟩
    go_wp2_with fail
    go_ret
    exact ⟨rfl, ((Below.refl _ _).alloc (Nat.le_refl _) _).trans (hB.mono (by simp))⟩
  · have HV := Lib.hid (show vl l = 0 by unfold vl; rw [hv]; rfl)
    rw [HV.out]
    rw [hv] at H
    clear hv
    go_enter Try.func106, Try.ntmps106
    go_wp2_with fail
    refine (H.out _).mono ?_
    rintro e w1 ⟨rfl, hB⟩
    go_wp2_with fail
    go_ret
    exact ⟨rfl, ((Below.refl _ _).alloc (Nat.le_refl _) _).trans (hB.mono (by simp))⟩

set_option maxHeartbeats 400000 in
theorem within_any (n lo hi : Int) (w : World) :
    Calls Try.prog 91 #[.int .i64 n, .int .i64 lo, .int .i64 hi] w fun e w' => e = .returned (.bool (btw n lo hi)) ∧ w = w' := by
  by_cases h : lo ≤ n
  · by_cases h2 : n ≤ hi
    · have hb : btw n lo hi = true := btw_true.2 ⟨h, h2⟩
      rw [hb]
      clear hb
      go_enter Try.func91, Try.ntmps91
      go_wp2
      go_ret
      exact ⟨rfl, rfl⟩
    · have hb : btw n lo hi = false := btw_false (.inr (by omega))
      rw [hb]
      clear hb
      go_enter Try.func91, Try.ntmps91
      go_wp2
      go_ret
      exact ⟨rfl, rfl⟩
  · have hb : btw n lo hi = false := btw_false (.inl (by omega))
    rw [hb]
    clear hb
    go_enter Try.func91, Try.ntmps91
    go_wp2
    go_ret
    exact ⟨rfl, rfl⟩

set_option maxHeartbeats 400000 in
theorem isRegister_any (n : Int) (w : World) : Calls Try.prog 90 #[.int .i64 n] w fun e w' => e = .returned (.bool (isReg n)) ∧ w = w' := by
  go_enter Try.func90, Try.ntmps90
  go_wp2_with (go_at_call 91; refine (within_any _ _ _ _).mono ?_; rintro e w' ⟨rfl, rfl⟩)
  go_ret
  exact ⟨rfl, rfl⟩

theorem isLn_0 (td a b : Int) : isLn ⟨0, td, a, b⟩ = (td == 0 && (a == 0 && b == 0)) := by simp [isLn, Bool.and_assoc]
theorem isLn_1 (td a b : Int) : isLn ⟨1, td, a, b⟩ = (isReg td && (btw a (-9) 9 && b == 0)) := by simp [isLn, Bool.and_assoc]
theorem isLn_2 (td a b : Int) : isLn ⟨2, td, a, b⟩ = (isReg td && (isReg a && b == 0)) := by simp [isLn, Bool.and_assoc]
theorem isLn_36 (op td a b : Int) (h1 : 3 ≤ op) (h2 : op ≤ 6) : isLn ⟨op, td, a, b⟩ = (isReg td && (isReg a && isReg b)) := by
  unfold isLn
  rw [if_neg (by show ¬ op = 0; omega), if_neg (by show ¬ op = 1; omega), if_neg (by show ¬ op = 2; omega), if_pos ⟨h1, h2⟩]
  simp [Bool.and_assoc]
theorem isLn_7 (td a b : Int) : isLn ⟨7, td, a, b⟩ = (btw td 1 8 && (isReg a && isReg b)) := by simp [isLn, Bool.and_assoc]

set_option maxRecDepth 100000 in
set_option maxHeartbeats 1000000 in
theorem rIsLine_0 (td a b : Int) (w : World) : Calls Try.prog 69 #[.agg #[.int .i64 0, .int .i64 td, .int .i64 a, .int .i64 b]] w fun e w' => e = .returned (.bool (isLn ⟨0, td, a, b⟩)) ∧ Below w.heap.size w w' := by
  rw [isLn_0 td a b]
  cases h1 : (td == 0)
  · go_enter Try.func69, Try.ntmps69
    go_wp2_with (first | (go_at_call 90; refine (isRegister_any _ _).mono ?_; rintro e w' ⟨rfl, rfl⟩) | (go_at_call 91; refine (within_any _ _ _ _).mono ?_; rintro e w' ⟨rfl, rfl⟩))
    go_ret
    exact ⟨rfl, (Below.refl _ _).alloc (Nat.le_refl _) _⟩
  · cases h2 : (a == 0)
    · go_enter Try.func69, Try.ntmps69
      go_wp2_with (first | (go_at_call 90; refine (isRegister_any _ _).mono ?_; rintro e w' ⟨rfl, rfl⟩) | (go_at_call 91; refine (within_any _ _ _ _).mono ?_; rintro e w' ⟨rfl, rfl⟩))
      go_ret
      exact ⟨rfl, (Below.refl _ _).alloc (Nat.le_refl _) _⟩
    · go_enter Try.func69, Try.ntmps69
      go_wp2_with (first | (go_at_call 90; refine (isRegister_any _ _).mono ?_; rintro e w' ⟨rfl, rfl⟩) | (go_at_call 91; refine (within_any _ _ _ _).mono ?_; rintro e w' ⟨rfl, rfl⟩))
      go_ret
      exact ⟨rfl, (Below.refl _ _).alloc (Nat.le_refl _) _⟩

set_option maxRecDepth 100000 in
set_option maxHeartbeats 1000000 in
theorem rIsLine_1 (td a b : Int) (w : World) : Calls Try.prog 69 #[.agg #[.int .i64 1, .int .i64 td, .int .i64 a, .int .i64 b]] w fun e w' => e = .returned (.bool (isLn ⟨1, td, a, b⟩)) ∧ Below w.heap.size w w' := by
  rw [isLn_1 td a b]
  cases h1 : (isReg td)
  · go_enter Try.func69, Try.ntmps69
    go_wp2_with (first | (go_at_call 90; refine (isRegister_any _ _).mono ?_; rintro e w' ⟨rfl, rfl⟩) | (go_at_call 91; refine (within_any _ _ _ _).mono ?_; rintro e w' ⟨rfl, rfl⟩))
    go_ret
    exact ⟨rfl, (Below.refl _ _).alloc (Nat.le_refl _) _⟩
  · cases h2 : (btw a (-9) 9)
    · go_enter Try.func69, Try.ntmps69
      go_wp2_with (first | (go_at_call 90; refine (isRegister_any _ _).mono ?_; rintro e w' ⟨rfl, rfl⟩) | (go_at_call 91; refine (within_any _ _ _ _).mono ?_; rintro e w' ⟨rfl, rfl⟩))
      go_ret
      exact ⟨rfl, (Below.refl _ _).alloc (Nat.le_refl _) _⟩
    · go_enter Try.func69, Try.ntmps69
      go_wp2_with (first | (go_at_call 90; refine (isRegister_any _ _).mono ?_; rintro e w' ⟨rfl, rfl⟩) | (go_at_call 91; refine (within_any _ _ _ _).mono ?_; rintro e w' ⟨rfl, rfl⟩))
      go_ret
      exact ⟨rfl, (Below.refl _ _).alloc (Nat.le_refl _) _⟩

set_option maxRecDepth 100000 in
set_option maxHeartbeats 1000000 in
theorem rIsLine_2 (td a b : Int) (w : World) : Calls Try.prog 69 #[.agg #[.int .i64 2, .int .i64 td, .int .i64 a, .int .i64 b]] w fun e w' => e = .returned (.bool (isLn ⟨2, td, a, b⟩)) ∧ Below w.heap.size w w' := by
  rw [isLn_2 td a b]
  cases h1 : (isReg td)
  · go_enter Try.func69, Try.ntmps69
    go_wp2_with (first | (go_at_call 90; refine (isRegister_any _ _).mono ?_; rintro e w' ⟨rfl, rfl⟩) | (go_at_call 91; refine (within_any _ _ _ _).mono ?_; rintro e w' ⟨rfl, rfl⟩))
    go_ret
    exact ⟨rfl, (Below.refl _ _).alloc (Nat.le_refl _) _⟩
  · cases h2 : (isReg a)
    · go_enter Try.func69, Try.ntmps69
      go_wp2_with (first | (go_at_call 90; refine (isRegister_any _ _).mono ?_; rintro e w' ⟨rfl, rfl⟩) | (go_at_call 91; refine (within_any _ _ _ _).mono ?_; rintro e w' ⟨rfl, rfl⟩))
      go_ret
      exact ⟨rfl, (Below.refl _ _).alloc (Nat.le_refl _) _⟩
    · go_enter Try.func69, Try.ntmps69
      go_wp2_with (first | (go_at_call 90; refine (isRegister_any _ _).mono ?_; rintro e w' ⟨rfl, rfl⟩) | (go_at_call 91; refine (within_any _ _ _ _).mono ?_; rintro e w' ⟨rfl, rfl⟩))
      go_ret
      exact ⟨rfl, (Below.refl _ _).alloc (Nat.le_refl _) _⟩

set_option maxRecDepth 100000 in
set_option maxHeartbeats 1000000 in
theorem rIsLine_3 (td a b : Int) (w : World) : Calls Try.prog 69 #[.agg #[.int .i64 3, .int .i64 td, .int .i64 a, .int .i64 b]] w fun e w' => e = .returned (.bool (isLn ⟨3, td, a, b⟩)) ∧ Below w.heap.size w w' := by
  rw [isLn_36 3 td a b (by decide) (by decide)]
  cases h1 : (isReg td)
  · go_enter Try.func69, Try.ntmps69
    go_wp2_with (first | (go_at_call 90; refine (isRegister_any _ _).mono ?_; rintro e w' ⟨rfl, rfl⟩) | (go_at_call 91; refine (within_any _ _ _ _).mono ?_; rintro e w' ⟨rfl, rfl⟩))
    go_ret
    exact ⟨rfl, (Below.refl _ _).alloc (Nat.le_refl _) _⟩
  · cases h2 : (isReg a)
    · go_enter Try.func69, Try.ntmps69
      go_wp2_with (first | (go_at_call 90; refine (isRegister_any _ _).mono ?_; rintro e w' ⟨rfl, rfl⟩) | (go_at_call 91; refine (within_any _ _ _ _).mono ?_; rintro e w' ⟨rfl, rfl⟩))
      go_ret
      exact ⟨rfl, (Below.refl _ _).alloc (Nat.le_refl _) _⟩
    · go_enter Try.func69, Try.ntmps69
      go_wp2_with (first | (go_at_call 90; refine (isRegister_any _ _).mono ?_; rintro e w' ⟨rfl, rfl⟩) | (go_at_call 91; refine (within_any _ _ _ _).mono ?_; rintro e w' ⟨rfl, rfl⟩))
      go_ret
      exact ⟨rfl, (Below.refl _ _).alloc (Nat.le_refl _) _⟩

set_option maxRecDepth 100000 in
set_option maxHeartbeats 1000000 in
theorem rIsLine_4 (td a b : Int) (w : World) : Calls Try.prog 69 #[.agg #[.int .i64 4, .int .i64 td, .int .i64 a, .int .i64 b]] w fun e w' => e = .returned (.bool (isLn ⟨4, td, a, b⟩)) ∧ Below w.heap.size w w' := by
  rw [isLn_36 4 td a b (by decide) (by decide)]
  cases h1 : (isReg td)
  · go_enter Try.func69, Try.ntmps69
    go_wp2_with (first | (go_at_call 90; refine (isRegister_any _ _).mono ?_; rintro e w' ⟨rfl, rfl⟩) | (go_at_call 91; refine (within_any _ _ _ _).mono ?_; rintro e w' ⟨rfl, rfl⟩))
    go_ret
    exact ⟨rfl, (Below.refl _ _).alloc (Nat.le_refl _) _⟩
  · cases h2 : (isReg a)
    · go_enter Try.func69, Try.ntmps69
      go_wp2_with (first | (go_at_call 90; refine (isRegister_any _ _).mono ?_; rintro e w' ⟨rfl, rfl⟩) | (go_at_call 91; refine (within_any _ _ _ _).mono ?_; rintro e w' ⟨rfl, rfl⟩))
      go_ret
      exact ⟨rfl, (Below.refl _ _).alloc (Nat.le_refl _) _⟩
    · go_enter Try.func69, Try.ntmps69
      go_wp2_with (first | (go_at_call 90; refine (isRegister_any _ _).mono ?_; rintro e w' ⟨rfl, rfl⟩) | (go_at_call 91; refine (within_any _ _ _ _).mono ?_; rintro e w' ⟨rfl, rfl⟩))
      go_ret
      exact ⟨rfl, (Below.refl _ _).alloc (Nat.le_refl _) _⟩

set_option maxRecDepth 100000 in
set_option maxHeartbeats 1000000 in
theorem rIsLine_5 (td a b : Int) (w : World) : Calls Try.prog 69 #[.agg #[.int .i64 5, .int .i64 td, .int .i64 a, .int .i64 b]] w fun e w' => e = .returned (.bool (isLn ⟨5, td, a, b⟩)) ∧ Below w.heap.size w w' := by
  rw [isLn_36 5 td a b (by decide) (by decide)]
  cases h1 : (isReg td)
  · go_enter Try.func69, Try.ntmps69
    go_wp2_with (first | (go_at_call 90; refine (isRegister_any _ _).mono ?_; rintro e w' ⟨rfl, rfl⟩) | (go_at_call 91; refine (within_any _ _ _ _).mono ?_; rintro e w' ⟨rfl, rfl⟩))
    go_ret
    exact ⟨rfl, (Below.refl _ _).alloc (Nat.le_refl _) _⟩
  · cases h2 : (isReg a)
    · go_enter Try.func69, Try.ntmps69
      go_wp2_with (first | (go_at_call 90; refine (isRegister_any _ _).mono ?_; rintro e w' ⟨rfl, rfl⟩) | (go_at_call 91; refine (within_any _ _ _ _).mono ?_; rintro e w' ⟨rfl, rfl⟩))
      go_ret
      exact ⟨rfl, (Below.refl _ _).alloc (Nat.le_refl _) _⟩
    · go_enter Try.func69, Try.ntmps69
      go_wp2_with (first | (go_at_call 90; refine (isRegister_any _ _).mono ?_; rintro e w' ⟨rfl, rfl⟩) | (go_at_call 91; refine (within_any _ _ _ _).mono ?_; rintro e w' ⟨rfl, rfl⟩))
      go_ret
      exact ⟨rfl, (Below.refl _ _).alloc (Nat.le_refl _) _⟩

set_option maxRecDepth 100000 in
set_option maxHeartbeats 1000000 in
theorem rIsLine_6 (td a b : Int) (w : World) : Calls Try.prog 69 #[.agg #[.int .i64 6, .int .i64 td, .int .i64 a, .int .i64 b]] w fun e w' => e = .returned (.bool (isLn ⟨6, td, a, b⟩)) ∧ Below w.heap.size w w' := by
  rw [isLn_36 6 td a b (by decide) (by decide)]
  cases h1 : (isReg td)
  · go_enter Try.func69, Try.ntmps69
    go_wp2_with (first | (go_at_call 90; refine (isRegister_any _ _).mono ?_; rintro e w' ⟨rfl, rfl⟩) | (go_at_call 91; refine (within_any _ _ _ _).mono ?_; rintro e w' ⟨rfl, rfl⟩))
    go_ret
    exact ⟨rfl, (Below.refl _ _).alloc (Nat.le_refl _) _⟩
  · cases h2 : (isReg a)
    · go_enter Try.func69, Try.ntmps69
      go_wp2_with (first | (go_at_call 90; refine (isRegister_any _ _).mono ?_; rintro e w' ⟨rfl, rfl⟩) | (go_at_call 91; refine (within_any _ _ _ _).mono ?_; rintro e w' ⟨rfl, rfl⟩))
      go_ret
      exact ⟨rfl, (Below.refl _ _).alloc (Nat.le_refl _) _⟩
    · go_enter Try.func69, Try.ntmps69
      go_wp2_with (first | (go_at_call 90; refine (isRegister_any _ _).mono ?_; rintro e w' ⟨rfl, rfl⟩) | (go_at_call 91; refine (within_any _ _ _ _).mono ?_; rintro e w' ⟨rfl, rfl⟩))
      go_ret
      exact ⟨rfl, (Below.refl _ _).alloc (Nat.le_refl _) _⟩

set_option maxRecDepth 100000 in
set_option maxHeartbeats 1000000 in
theorem rIsLine_7 (td a b : Int) (w : World) : Calls Try.prog 69 #[.agg #[.int .i64 7, .int .i64 td, .int .i64 a, .int .i64 b]] w fun e w' => e = .returned (.bool (isLn ⟨7, td, a, b⟩)) ∧ Below w.heap.size w w' := by
  rw [isLn_7 td a b]
  cases h1 : (btw td 1 8)
  · go_enter Try.func69, Try.ntmps69
    go_wp2_with (first | (go_at_call 90; refine (isRegister_any _ _).mono ?_; rintro e w' ⟨rfl, rfl⟩) | (go_at_call 91; refine (within_any _ _ _ _).mono ?_; rintro e w' ⟨rfl, rfl⟩))
    go_ret
    exact ⟨rfl, (Below.refl _ _).alloc (Nat.le_refl _) _⟩
  · cases h2 : (isReg a)
    · go_enter Try.func69, Try.ntmps69
      go_wp2_with (first | (go_at_call 90; refine (isRegister_any _ _).mono ?_; rintro e w' ⟨rfl, rfl⟩) | (go_at_call 91; refine (within_any _ _ _ _).mono ?_; rintro e w' ⟨rfl, rfl⟩))
      go_ret
      exact ⟨rfl, (Below.refl _ _).alloc (Nat.le_refl _) _⟩
    · go_enter Try.func69, Try.ntmps69
      go_wp2_with (first | (go_at_call 90; refine (isRegister_any _ _).mono ?_; rintro e w' ⟨rfl, rfl⟩) | (go_at_call 91; refine (within_any _ _ _ _).mono ?_; rintro e w' ⟨rfl, rfl⟩))
      go_ret
      exact ⟨rfl, (Below.refl _ _).alloc (Nat.le_refl _) _⟩

set_option maxRecDepth 100000 in
set_option maxHeartbeats 1000000 in
theorem rIsLine_out (op td a b : Int) (w : World) (h : op < 0 ∨ 7 < op) : Calls Try.prog 69 #[.agg #[.int .i64 op, .int .i64 td, .int .i64 a, .int .i64 b]] w fun e w' => e = .returned (.bool false) ∧ Below w.heap.size w w' := by
  have e0 : (op == 0) = false := by rw [beq_eq_false_iff_ne]; omega
  have e1 : (op == 1) = false := by rw [beq_eq_false_iff_ne]; omega
  have e2 : (op == 2) = false := by rw [beq_eq_false_iff_ne]; omega
  have e3 : (op == 3) = false := by rw [beq_eq_false_iff_ne]; omega
  have e4 : (op == 4) = false := by rw [beq_eq_false_iff_ne]; omega
  have e5 : (op == 5) = false := by rw [beq_eq_false_iff_ne]; omega
  have e6 : (op == 6) = false := by rw [beq_eq_false_iff_ne]; omega
  have e7 : (op == 7) = false := by rw [beq_eq_false_iff_ne]; omega
  clear h
  go_enter Try.func69, Try.ntmps69
  go_wp2_with fail
  go_ret
  exact ⟨rfl, (Below.refl _ _).alloc (Nat.le_refl _) _⟩

theorem rIsLine_any (l : L) (w : World) : Calls Try.prog 69 #[lv l] w fun e w' => e = .returned (.bool (isLn l)) ∧ Below w.heap.size w w' := by
  by_cases h : l.op < 0 ∨ 7 < l.op
  · rw [isLn_out h]
    exact rIsLine_out l.op l.to l.a l.b w h
  · obtain ⟨op, td, a, b⟩ := l
    simp only at h
    have h : op = 0 ∨ op = 1 ∨ op = 2 ∨ op = 3 ∨ op = 4 ∨ op = 5 ∨ op = 6 ∨ op = 7 := by omega
    rcases h with rfl | rfl | rfl | rfl | rfl | rfl | rfl | rfl
    · exact rIsLine_0 td a b w
    · exact rIsLine_1 td a b w
    · exact rIsLine_2 td a b w
    · exact rIsLine_3 td a b w
    · exact rIsLine_4 td a b w
    · exact rIsLine_5 td a b w
    · exact rIsLine_6 td a b w
    · exact rIsLine_7 td a b w

end Go.Proofs.Ytikblaebfpdngaa

/- Reads and Writes, of the code and of the document's answers: contracts. -/
set_option linter.unusedVariables false
set_option linter.unusedSimpArgs false
namespace Go.Proofs.Ytikblaebfpdngaa
open Go.RowKit Tinker

/-- What Reads answers. -/
def rdA (l : L) : List Int := if isLn l then plc (rd l) else []
/-- The register of Writes, and whether there is one. -/
def wrN (l : L) : Int := if isLn l && Tinker.wr l then l.to else 0
def wrB (l : L) : Bool := isLn l && Tinker.wr l

theorem ret3 {a : Int} {b : Bool} {c a' : Int} {b' : Bool} {c' : Int} (h1 : a = a') (h2 : b = b') (h3 : c = c') : Ending.returned (.tuple #[.int .i64 a, .bool b, .int .i64 c]) = .returned (.tuple #[.int .i64 a', .bool b', .int .i64 c']) := by rw [h1, h2, h3]

set_option maxHeartbeats 400000 in
theorem rValidateLine_any (l : L) (w : World) : Calls Try.prog 70 #[lv l] w fun e w' => e = .returned (.int .i64 (vl l)) ∧ Below w.heap.size w w' := by
  have H := Lib.hid (fun w => rIsLine_any l w)
  unfold lv at H ⊢
  cases hv : isLn l
  · have HV := Lib.hid (show vl l = 1 by unfold vl; rw [hv]; rfl)
    rw [HV.out]
    rw [hv] at H
    clear hv
    go_enter Try.func70, Try.ntmps70
    go_wp2_with fail
    refine (H.out _).mono ?_
    rintro e w1 ⟨rfl, hB⟩
    go_wp2_with fail
    go_ret
    exact ⟨rfl, ((Below.refl _ _).alloc (Nat.le_refl _) _).trans (hB.mono (by simp))⟩
  · have HV := Lib.hid (show vl l = 0 by unfold vl; rw [hv]; rfl)
    rw [HV.out]
    rw [hv] at H
    clear hv
    go_enter Try.func70, Try.ntmps70
    go_wp2_with fail
    refine (H.out _).mono ?_
    rintro e w1 ⟨rfl, hB⟩
    go_wp2_with fail
    go_ret
    exact ⟨rfl, ((Below.refl _ _).alloc (Nat.le_refl _) _).trans (hB.mono (by simp))⟩

end Go.Proofs.Ytikblaebfpdngaa

/- reads, set, Reads, Writes of the document's answers: contracts. -/
set_option linter.unusedVariables false
set_option linter.unusedSimpArgs false
namespace Go.Proofs.Ytikblaebfpdngaa
open Go.RowKit Tinker

theorem mk4 (w : World) : (Instr.makeSlice 70 (.int .i64 4) (.int .i64 4)).run Try.prog w = .ok (.slice (some ⟨w.heap.size, 0, none⟩) 4 4) (w.alloc (.cells #[.bool false, .bool false, .bool false, .bool false] 4)) := by kernel_rfl

/-- A new slice of bools. -/
def GivesBools (n : Nat) (bs : List Bool) (w : World) (e : Ending) (w' : World) : Prop := ∃ b, e = .returned (.slice (some ⟨b, 0, none⟩) n n) ∧ w'.heap[b]? = some (.cells (bv bs) 4 (0, 0)) ∧ w.heap.size ≤ b ∧ Below w.heap.size w w'

end Go.Proofs.Ytikblaebfpdngaa
