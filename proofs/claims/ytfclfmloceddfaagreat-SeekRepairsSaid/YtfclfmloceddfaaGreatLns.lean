/- Several texts in one. -/
import Derived.Test.YtfclfmloceddfaaGreatRunC
import Derived.Test.YtfclfmloceddfaaGreatSliceC
import Derived.Laws.AppendOwnNone
/- ValidateLine, Reads, Writes, and their answers of the document: contracts. -/
set_option linter.unusedVariables false
set_option linter.unusedSimpArgs false
namespace Go.Proofs.YtfclfmloceddfaaGreat
open Go.RowKit Tinker

/-- The code of a line. -/
def vl (l : L) : Int := if isLn l then 0 else 1

set_option maxHeartbeats 400000 in
theorem validateLine_any (l : L) (w : World) : Calls Tryz.prog 28 #[lv l] w fun e w' => e = .returned (.int .i64 (vl l)) ∧ Below w.heap.size w w' := by
  have H := Lib.hid (fun w => isLine_any l w)
  unfold lv at H ⊢
  cases hv : isLn l
  · have HV := Lib.hid (show vl l = 1 by unfold vl; rw [hv]; rfl)
    rw [HV.out]
    rw [hv] at H
    clear hv
    go_enter Tryz.func28, Tryz.ntmps28
    go_wp2_with fail
    refine (H.out _).mono ?_
    rintro e w1 ⟨rfl, hB⟩
    go_wp2_with fail
    go_ret
    exact ⟨rfl, ((Below.refl _ _).alloc (Nat.le_refl _) _).trans (hB.mono (by simp))⟩
  · have HV := Lib.hid (show vl l = 0 by unfold vl; rw [hv]; rfl)
    rw [HV.out]
    rw [hv] at H
    clear hv
    go_enter Tryz.func28, Tryz.ntmps28
    go_wp2_with fail
    refine (H.out _).mono ?_
    rintro e w1 ⟨rfl, hB⟩
    go_wp2_with fail
    go_ret
    exact ⟨rfl, ((Below.refl _ _).alloc (Nat.le_refl _) _).trans (hB.mono (by simp))⟩

set_option maxHeartbeats 400000 in
theorem within_any (n lo hi : Int) (w : World) :
    Calls Tryz.prog 117 #[.int .i64 n, .int .i64 lo, .int .i64 hi] w fun e w' => e = .returned (.bool (btw n lo hi)) ∧ w = w' := by
  by_cases h : lo ≤ n
  · by_cases h2 : n ≤ hi
    · have hb : btw n lo hi = true := btw_true.2 ⟨h, h2⟩
      rw [hb]
      clear hb
      go_enter Tryz.func117, Tryz.ntmps117
      go_wp2
      go_ret
      exact ⟨rfl, rfl⟩
    · have hb : btw n lo hi = false := btw_false (.inr (by omega))
      rw [hb]
      clear hb
      go_enter Tryz.func117, Tryz.ntmps117
      go_wp2
      go_ret
      exact ⟨rfl, rfl⟩
  · have hb : btw n lo hi = false := btw_false (.inl (by omega))
    rw [hb]
    clear hb
    go_enter Tryz.func117, Tryz.ntmps117
    go_wp2
    go_ret
    exact ⟨rfl, rfl⟩

set_option maxHeartbeats 400000 in
theorem isRegister_any (n : Int) (w : World) : Calls Tryz.prog 116 #[.int .i64 n] w fun e w' => e = .returned (.bool (isReg n)) ∧ w = w' := by
  go_enter Tryz.func116, Tryz.ntmps116
  go_wp2_with (go_at_call 117; refine (within_any _ _ _ _).mono ?_; rintro e w' ⟨rfl, rfl⟩)
  go_ret
  exact ⟨rfl, rfl⟩

theorem isLn_0 (td a b : Int) : isLn ⟨0, td, a, b⟩ = (td == 0 && (a == 0 && b == 0)) := by simp [isLn, Bool.and_assoc]
theorem isLn_1 (td a b : Int) : isLn ⟨1, td, a, b⟩ = (isReg td && (btw a (-9) 9 && b == 0)) := by simp [isLn, Bool.and_assoc]
theorem isLn_2 (td a b : Int) : isLn ⟨2, td, a, b⟩ = (isReg td && (isReg a && b == 0)) := by simp [isLn, Bool.and_assoc]
theorem isLn_36 (op td a b : Int) (h1 : 3 ≤ op) (h2 : op ≤ 6) : isLn ⟨op, td, a, b⟩ = (isReg td && (isReg a && isReg b)) := by
  unfold isLn
  rw [if_neg (by show ¬ op = 0; omega), if_neg (by show ¬ op = 1; omega), if_neg (by show ¬ op = 2; omega), if_pos ⟨h1, h2⟩]
  simp [Bool.and_assoc]
theorem isLn_7 (td a b : Int) : isLn ⟨7, td, a, b⟩ = (btw td 1 8 && (isReg a && isReg b)) := by simp [isLn, Bool.and_assoc]

set_option maxRecDepth 100000 in
set_option maxHeartbeats 1000000 in
theorem rIsLine_0 (td a b : Int) (w : World) : Calls Tryz.prog 93 #[.agg #[.int .i64 0, .int .i64 td, .int .i64 a, .int .i64 b]] w fun e w' => e = .returned (.bool (isLn ⟨0, td, a, b⟩)) ∧ Below w.heap.size w w' := by
  rw [isLn_0 td a b]
  cases h1 : (td == 0)
  · go_enter Tryz.func93, Tryz.ntmps93
    go_wp2_with (first | (go_at_call 116; refine (isRegister_any _ _).mono ?_; rintro e w' ⟨rfl, rfl⟩) | (go_at_call 117; refine (within_any _ _ _ _).mono ?_; rintro e w' ⟨rfl, rfl⟩))
    go_ret
    exact ⟨rfl, (Below.refl _ _).alloc (Nat.le_refl _) _⟩
  · cases h2 : (a == 0)
    · go_enter Tryz.func93, Tryz.ntmps93
      go_wp2_with (first | (go_at_call 116; refine (isRegister_any _ _).mono ?_; rintro e w' ⟨rfl, rfl⟩) | (go_at_call 117; refine (within_any _ _ _ _).mono ?_; rintro e w' ⟨rfl, rfl⟩))
      go_ret
      exact ⟨rfl, (Below.refl _ _).alloc (Nat.le_refl _) _⟩
    · go_enter Tryz.func93, Tryz.ntmps93
      go_wp2_with (first | (go_at_call 116; refine (isRegister_any _ _).mono ?_; rintro e w' ⟨rfl, rfl⟩) | (go_at_call 117; refine (within_any _ _ _ _).mono ?_; rintro e w' ⟨rfl, rfl⟩))
      go_ret
      exact ⟨rfl, (Below.refl _ _).alloc (Nat.le_refl _) _⟩

set_option maxRecDepth 100000 in
set_option maxHeartbeats 1000000 in
theorem rIsLine_1 (td a b : Int) (w : World) : Calls Tryz.prog 93 #[.agg #[.int .i64 1, .int .i64 td, .int .i64 a, .int .i64 b]] w fun e w' => e = .returned (.bool (isLn ⟨1, td, a, b⟩)) ∧ Below w.heap.size w w' := by
  rw [isLn_1 td a b]
  cases h1 : (isReg td)
  · go_enter Tryz.func93, Tryz.ntmps93
    go_wp2_with (first | (go_at_call 116; refine (isRegister_any _ _).mono ?_; rintro e w' ⟨rfl, rfl⟩) | (go_at_call 117; refine (within_any _ _ _ _).mono ?_; rintro e w' ⟨rfl, rfl⟩))
    go_ret
    exact ⟨rfl, (Below.refl _ _).alloc (Nat.le_refl _) _⟩
  · cases h2 : (btw a (-9) 9)
    · go_enter Tryz.func93, Tryz.ntmps93
      go_wp2_with (first | (go_at_call 116; refine (isRegister_any _ _).mono ?_; rintro e w' ⟨rfl, rfl⟩) | (go_at_call 117; refine (within_any _ _ _ _).mono ?_; rintro e w' ⟨rfl, rfl⟩))
      go_ret
      exact ⟨rfl, (Below.refl _ _).alloc (Nat.le_refl _) _⟩
    · go_enter Tryz.func93, Tryz.ntmps93
      go_wp2_with (first | (go_at_call 116; refine (isRegister_any _ _).mono ?_; rintro e w' ⟨rfl, rfl⟩) | (go_at_call 117; refine (within_any _ _ _ _).mono ?_; rintro e w' ⟨rfl, rfl⟩))
      go_ret
      exact ⟨rfl, (Below.refl _ _).alloc (Nat.le_refl _) _⟩

set_option maxRecDepth 100000 in
set_option maxHeartbeats 1000000 in
theorem rIsLine_2 (td a b : Int) (w : World) : Calls Tryz.prog 93 #[.agg #[.int .i64 2, .int .i64 td, .int .i64 a, .int .i64 b]] w fun e w' => e = .returned (.bool (isLn ⟨2, td, a, b⟩)) ∧ Below w.heap.size w w' := by
  rw [isLn_2 td a b]
  cases h1 : (isReg td)
  · go_enter Tryz.func93, Tryz.ntmps93
    go_wp2_with (first | (go_at_call 116; refine (isRegister_any _ _).mono ?_; rintro e w' ⟨rfl, rfl⟩) | (go_at_call 117; refine (within_any _ _ _ _).mono ?_; rintro e w' ⟨rfl, rfl⟩))
    go_ret
    exact ⟨rfl, (Below.refl _ _).alloc (Nat.le_refl _) _⟩
  · cases h2 : (isReg a)
    · go_enter Tryz.func93, Tryz.ntmps93
      go_wp2_with (first | (go_at_call 116; refine (isRegister_any _ _).mono ?_; rintro e w' ⟨rfl, rfl⟩) | (go_at_call 117; refine (within_any _ _ _ _).mono ?_; rintro e w' ⟨rfl, rfl⟩))
      go_ret
      exact ⟨rfl, (Below.refl _ _).alloc (Nat.le_refl _) _⟩
    · go_enter Tryz.func93, Tryz.ntmps93
      go_wp2_with (first | (go_at_call 116; refine (isRegister_any _ _).mono ?_; rintro e w' ⟨rfl, rfl⟩) | (go_at_call 117; refine (within_any _ _ _ _).mono ?_; rintro e w' ⟨rfl, rfl⟩))
      go_ret
      exact ⟨rfl, (Below.refl _ _).alloc (Nat.le_refl _) _⟩

set_option maxRecDepth 100000 in
set_option maxHeartbeats 1000000 in
theorem rIsLine_3 (td a b : Int) (w : World) : Calls Tryz.prog 93 #[.agg #[.int .i64 3, .int .i64 td, .int .i64 a, .int .i64 b]] w fun e w' => e = .returned (.bool (isLn ⟨3, td, a, b⟩)) ∧ Below w.heap.size w w' := by
  rw [isLn_36 3 td a b (by decide) (by decide)]
  cases h1 : (isReg td)
  · go_enter Tryz.func93, Tryz.ntmps93
    go_wp2_with (first | (go_at_call 116; refine (isRegister_any _ _).mono ?_; rintro e w' ⟨rfl, rfl⟩) | (go_at_call 117; refine (within_any _ _ _ _).mono ?_; rintro e w' ⟨rfl, rfl⟩))
    go_ret
    exact ⟨rfl, (Below.refl _ _).alloc (Nat.le_refl _) _⟩
  · cases h2 : (isReg a)
    · go_enter Tryz.func93, Tryz.ntmps93
      go_wp2_with (first | (go_at_call 116; refine (isRegister_any _ _).mono ?_; rintro e w' ⟨rfl, rfl⟩) | (go_at_call 117; refine (within_any _ _ _ _).mono ?_; rintro e w' ⟨rfl, rfl⟩))
      go_ret
      exact ⟨rfl, (Below.refl _ _).alloc (Nat.le_refl _) _⟩
    · go_enter Tryz.func93, Tryz.ntmps93
      go_wp2_with (first | (go_at_call 116; refine (isRegister_any _ _).mono ?_; rintro e w' ⟨rfl, rfl⟩) | (go_at_call 117; refine (within_any _ _ _ _).mono ?_; rintro e w' ⟨rfl, rfl⟩))
      go_ret
      exact ⟨rfl, (Below.refl _ _).alloc (Nat.le_refl _) _⟩

set_option maxRecDepth 100000 in
set_option maxHeartbeats 1000000 in
theorem rIsLine_4 (td a b : Int) (w : World) : Calls Tryz.prog 93 #[.agg #[.int .i64 4, .int .i64 td, .int .i64 a, .int .i64 b]] w fun e w' => e = .returned (.bool (isLn ⟨4, td, a, b⟩)) ∧ Below w.heap.size w w' := by
  rw [isLn_36 4 td a b (by decide) (by decide)]
  cases h1 : (isReg td)
  · go_enter Tryz.func93, Tryz.ntmps93
    go_wp2_with (first | (go_at_call 116; refine (isRegister_any _ _).mono ?_; rintro e w' ⟨rfl, rfl⟩) | (go_at_call 117; refine (within_any _ _ _ _).mono ?_; rintro e w' ⟨rfl, rfl⟩))
    go_ret
    exact ⟨rfl, (Below.refl _ _).alloc (Nat.le_refl _) _⟩
  · cases h2 : (isReg a)
    · go_enter Tryz.func93, Tryz.ntmps93
      go_wp2_with (first | (go_at_call 116; refine (isRegister_any _ _).mono ?_; rintro e w' ⟨rfl, rfl⟩) | (go_at_call 117; refine (within_any _ _ _ _).mono ?_; rintro e w' ⟨rfl, rfl⟩))
      go_ret
      exact ⟨rfl, (Below.refl _ _).alloc (Nat.le_refl _) _⟩
    · go_enter Tryz.func93, Tryz.ntmps93
      go_wp2_with (first | (go_at_call 116; refine (isRegister_any _ _).mono ?_; rintro e w' ⟨rfl, rfl⟩) | (go_at_call 117; refine (within_any _ _ _ _).mono ?_; rintro e w' ⟨rfl, rfl⟩))
      go_ret
      exact ⟨rfl, (Below.refl _ _).alloc (Nat.le_refl _) _⟩

set_option maxRecDepth 100000 in
set_option maxHeartbeats 1000000 in
theorem rIsLine_5 (td a b : Int) (w : World) : Calls Tryz.prog 93 #[.agg #[.int .i64 5, .int .i64 td, .int .i64 a, .int .i64 b]] w fun e w' => e = .returned (.bool (isLn ⟨5, td, a, b⟩)) ∧ Below w.heap.size w w' := by
  rw [isLn_36 5 td a b (by decide) (by decide)]
  cases h1 : (isReg td)
  · go_enter Tryz.func93, Tryz.ntmps93
    go_wp2_with (first | (go_at_call 116; refine (isRegister_any _ _).mono ?_; rintro e w' ⟨rfl, rfl⟩) | (go_at_call 117; refine (within_any _ _ _ _).mono ?_; rintro e w' ⟨rfl, rfl⟩))
    go_ret
    exact ⟨rfl, (Below.refl _ _).alloc (Nat.le_refl _) _⟩
  · cases h2 : (isReg a)
    · go_enter Tryz.func93, Tryz.ntmps93
      go_wp2_with (first | (go_at_call 116; refine (isRegister_any _ _).mono ?_; rintro e w' ⟨rfl, rfl⟩) | (go_at_call 117; refine (within_any _ _ _ _).mono ?_; rintro e w' ⟨rfl, rfl⟩))
      go_ret
      exact ⟨rfl, (Below.refl _ _).alloc (Nat.le_refl _) _⟩
    · go_enter Tryz.func93, Tryz.ntmps93
      go_wp2_with (first | (go_at_call 116; refine (isRegister_any _ _).mono ?_; rintro e w' ⟨rfl, rfl⟩) | (go_at_call 117; refine (within_any _ _ _ _).mono ?_; rintro e w' ⟨rfl, rfl⟩))
      go_ret
      exact ⟨rfl, (Below.refl _ _).alloc (Nat.le_refl _) _⟩

set_option maxRecDepth 100000 in
set_option maxHeartbeats 1000000 in
theorem rIsLine_6 (td a b : Int) (w : World) : Calls Tryz.prog 93 #[.agg #[.int .i64 6, .int .i64 td, .int .i64 a, .int .i64 b]] w fun e w' => e = .returned (.bool (isLn ⟨6, td, a, b⟩)) ∧ Below w.heap.size w w' := by
  rw [isLn_36 6 td a b (by decide) (by decide)]
  cases h1 : (isReg td)
  · go_enter Tryz.func93, Tryz.ntmps93
    go_wp2_with (first | (go_at_call 116; refine (isRegister_any _ _).mono ?_; rintro e w' ⟨rfl, rfl⟩) | (go_at_call 117; refine (within_any _ _ _ _).mono ?_; rintro e w' ⟨rfl, rfl⟩))
    go_ret
    exact ⟨rfl, (Below.refl _ _).alloc (Nat.le_refl _) _⟩
  · cases h2 : (isReg a)
    · go_enter Tryz.func93, Tryz.ntmps93
      go_wp2_with (first | (go_at_call 116; refine (isRegister_any _ _).mono ?_; rintro e w' ⟨rfl, rfl⟩) | (go_at_call 117; refine (within_any _ _ _ _).mono ?_; rintro e w' ⟨rfl, rfl⟩))
      go_ret
      exact ⟨rfl, (Below.refl _ _).alloc (Nat.le_refl _) _⟩
    · go_enter Tryz.func93, Tryz.ntmps93
      go_wp2_with (first | (go_at_call 116; refine (isRegister_any _ _).mono ?_; rintro e w' ⟨rfl, rfl⟩) | (go_at_call 117; refine (within_any _ _ _ _).mono ?_; rintro e w' ⟨rfl, rfl⟩))
      go_ret
      exact ⟨rfl, (Below.refl _ _).alloc (Nat.le_refl _) _⟩

set_option maxRecDepth 100000 in
set_option maxHeartbeats 1000000 in
theorem rIsLine_7 (td a b : Int) (w : World) : Calls Tryz.prog 93 #[.agg #[.int .i64 7, .int .i64 td, .int .i64 a, .int .i64 b]] w fun e w' => e = .returned (.bool (isLn ⟨7, td, a, b⟩)) ∧ Below w.heap.size w w' := by
  rw [isLn_7 td a b]
  cases h1 : (btw td 1 8)
  · go_enter Tryz.func93, Tryz.ntmps93
    go_wp2_with (first | (go_at_call 116; refine (isRegister_any _ _).mono ?_; rintro e w' ⟨rfl, rfl⟩) | (go_at_call 117; refine (within_any _ _ _ _).mono ?_; rintro e w' ⟨rfl, rfl⟩))
    go_ret
    exact ⟨rfl, (Below.refl _ _).alloc (Nat.le_refl _) _⟩
  · cases h2 : (isReg a)
    · go_enter Tryz.func93, Tryz.ntmps93
      go_wp2_with (first | (go_at_call 116; refine (isRegister_any _ _).mono ?_; rintro e w' ⟨rfl, rfl⟩) | (go_at_call 117; refine (within_any _ _ _ _).mono ?_; rintro e w' ⟨rfl, rfl⟩))
      go_ret
      exact ⟨rfl, (Below.refl _ _).alloc (Nat.le_refl _) _⟩
    · go_enter Tryz.func93, Tryz.ntmps93
      go_wp2_with (first | (go_at_call 116; refine (isRegister_any _ _).mono ?_; rintro e w' ⟨rfl, rfl⟩) | (go_at_call 117; refine (within_any _ _ _ _).mono ?_; rintro e w' ⟨rfl, rfl⟩))
      go_ret
      exact ⟨rfl, (Below.refl _ _).alloc (Nat.le_refl _) _⟩

set_option maxRecDepth 100000 in
set_option maxHeartbeats 1000000 in
theorem rIsLine_out (op td a b : Int) (w : World) (h : op < 0 ∨ 7 < op) : Calls Tryz.prog 93 #[.agg #[.int .i64 op, .int .i64 td, .int .i64 a, .int .i64 b]] w fun e w' => e = .returned (.bool false) ∧ Below w.heap.size w w' := by
  have e0 : (op == 0) = false := by rw [beq_eq_false_iff_ne]; omega
  have e1 : (op == 1) = false := by rw [beq_eq_false_iff_ne]; omega
  have e2 : (op == 2) = false := by rw [beq_eq_false_iff_ne]; omega
  have e3 : (op == 3) = false := by rw [beq_eq_false_iff_ne]; omega
  have e4 : (op == 4) = false := by rw [beq_eq_false_iff_ne]; omega
  have e5 : (op == 5) = false := by rw [beq_eq_false_iff_ne]; omega
  have e6 : (op == 6) = false := by rw [beq_eq_false_iff_ne]; omega
  have e7 : (op == 7) = false := by rw [beq_eq_false_iff_ne]; omega
  clear h
  go_enter Tryz.func93, Tryz.ntmps93
  go_wp2_with fail
  go_ret
  exact ⟨rfl, (Below.refl _ _).alloc (Nat.le_refl _) _⟩

theorem rIsLine_any (l : L) (w : World) : Calls Tryz.prog 93 #[lv l] w fun e w' => e = .returned (.bool (isLn l)) ∧ Below w.heap.size w w' := by
  by_cases h : l.op < 0 ∨ 7 < l.op
  · rw [isLn_out h]
    exact rIsLine_out l.op l.to l.a l.b w h
  · obtain ⟨op, td, a, b⟩ := l
    simp only at h
    have h : op = 0 ∨ op = 1 ∨ op = 2 ∨ op = 3 ∨ op = 4 ∨ op = 5 ∨ op = 6 ∨ op = 7 := by omega
    rcases h with rfl | rfl | rfl | rfl | rfl | rfl | rfl | rfl
    · exact rIsLine_0 td a b w
    · exact rIsLine_1 td a b w
    · exact rIsLine_2 td a b w
    · exact rIsLine_3 td a b w
    · exact rIsLine_4 td a b w
    · exact rIsLine_5 td a b w
    · exact rIsLine_6 td a b w
    · exact rIsLine_7 td a b w

end Go.Proofs.YtfclfmloceddfaaGreat

/- Reads and Writes, of the code and of the document's answers: contracts. -/
set_option linter.unusedVariables false
set_option linter.unusedSimpArgs false
namespace Go.Proofs.YtfclfmloceddfaaGreat
open Go.RowKit Tinker

/-- What Reads answers. -/
def rdA (l : L) : List Int := if isLn l then plc (rd l) else []
/-- The register of Writes, and whether there is one. -/
def wrN (l : L) : Int := if isLn l && Tinker.wr l then l.to else 0
def wrB (l : L) : Bool := isLn l && Tinker.wr l

theorem ret3 {a : Int} {b : Bool} {c a' : Int} {b' : Bool} {c' : Int} (h1 : a = a') (h2 : b = b') (h3 : c = c') : Ending.returned (.tuple #[.int .i64 a, .bool b, .int .i64 c]) = .returned (.tuple #[.int .i64 a', .bool b', .int .i64 c']) := by rw [h1, h2, h3]

set_option maxHeartbeats 400000 in
theorem rWrites_any (l : L) (w : World) : Calls Tryz.prog 161 #[lv l] w fun e w' => e = .returned (.bool (Tinker.wr l)) ∧ Below w.heap.size w w' := by
  unfold lv
  by_cases h0 : l.op = 0
  · have e0 : (l.op != 0) = false := by simp [h0]
    have e1 : (l.op == 0) = true := by simp [h0]
    have hw : Tinker.wr l = false := by unfold Tinker.wr; rw [e0]; rfl
    rw [hw]
    clear h0 hw
    go_enter Tryz.func161, Tryz.ntmps161
    go_wp2_with fail
    go_ret
    exact ⟨rfl, (Below.refl _ _).alloc (Nat.le_refl _) _⟩
  · have e0 : (l.op != 0) = true := by simpa using h0
    have e1 : (l.op == 0) = false := by simpa using h0
    have hw : Tinker.wr l = (l.op != 7) := by unfold Tinker.wr; rw [e0]; rfl
    rw [hw]
    clear h0 hw
    go_enter Tryz.func161, Tryz.ntmps161
    go_wp2_with fail
    go_ret
    exact ⟨rfl, (Below.refl _ _).alloc (Nat.le_refl _) _⟩

end Go.Proofs.YtfclfmloceddfaaGreat

/- reads, set, Reads, Writes of the document's answers: contracts. -/
set_option linter.unusedVariables false
set_option linter.unusedSimpArgs false
namespace Go.Proofs.YtfclfmloceddfaaGreat
open Go.RowKit Tinker

theorem mk4 (w : World) : (Instr.makeSlice 121 (.int .i64 4) (.int .i64 4)).run Tryz.prog w = .ok (.slice (some ⟨w.heap.size, 0, none⟩) 4 4) (w.alloc (.cells #[.bool false, .bool false, .bool false, .bool false] 4)) := by kernel_rfl

/-- A new slice of bools. -/
def GivesBools (n : Nat) (bs : List Bool) (w : World) (e : Ending) (w' : World) : Prop := ∃ b, e = .returned (.slice (some ⟨b, 0, none⟩) n n) ∧ w'.heap[b]? = some (.cells (bv bs) 4 (0, 0)) ∧ w.heap.size ≤ b ∧ Below w.heap.size w w'

end Go.Proofs.YtfclfmloceddfaaGreat

/- Lists of lines in memory; copies of them; contracts of Long, large, hasLine, Copy, slices.Clone, Same. -/
set_option linter.unusedVariables false
set_option linter.unusedSimpArgs false
namespace Go.Proofs.YtfclfmloceddfaaGreat
open Go.RowKit Tinker

/-- The cells of a list of lines. -/
def lc (ps : List L) : List Value := ps.flatMap fun l => [.int .i64 l.op, .int .i64 l.to, .int .i64 l.a, .int .i64 l.b]
theorem lc_cons (l : L) (ps : List L) : lc (l :: ps) = .int .i64 l.op :: .int .i64 l.to :: .int .i64 l.a :: .int .i64 l.b :: lc ps := by simp [lc]
theorem lc_length : ∀ ps : List L, (lc ps).length = ps.length * 4
  | [] => rfl
  | l :: r => by rw [lc_cons]; simp [lc_length r]; omega
theorem lc_append (ps qs : List L) : lc (ps ++ qs) = lc ps ++ lc qs := by simp [lc]
theorem lc_one (ps : List L) : ∀ u ∈ lc ps, u.oneCell' = true := by
  intro u hu
  simp only [lc, List.mem_flatMap] at hu
  obtain ⟨l, _, hu⟩ := hu
  simp only [List.mem_cons, List.not_mem_nil, or_false] at hu
  rcases hu with rfl | rfl | rfl | rfl <;> rfl
theorem lc_get : ∀ {ps : List L} {i : Nat} {l : L}, ps[i]? = some l → (lc ps)[i * 4]? = some (.int .i64 l.op) ∧ (lc ps)[i * 4 + 1]? = some (.int .i64 l.to) ∧ (lc ps)[i * 4 + 2]? = some (.int .i64 l.a) ∧ (lc ps)[i * 4 + 3]? = some (.int .i64 l.b)
  | [], i, l, h => by simp at h
  | x :: q, 0, l, h => by simp at h; subst h; rw [lc_cons]; simp
  | x :: q, i + 1, l, h => by
    have ih := lc_get (ps := q) (i := i) (by simpa using h)
    rw [lc_cons, show (i + 1) * 4 = i * 4 + 4 by omega]
    simpa using ih
theorem lc_inv {ps : List L} {j : Nat} {u : Value} (h : (lc ps)[j]? = some u) : ∃ l, ps[j / 4]? = some l ∧ ((j % 4 = 0 ∧ u = .int .i64 l.op) ∨ (j % 4 = 1 ∧ u = .int .i64 l.to) ∨ (j % 4 = 2 ∧ u = .int .i64 l.a) ∨ (j % 4 = 3 ∧ u = .int .i64 l.b)) := by
  have hj : j < (lc ps).length := (List.getElem?_eq_some_iff.1 h).1
  rw [lc_length] at hj
  obtain ⟨l, hl⟩ := get_of_lt (show j / 4 < ps.length by omega)
  refine ⟨l, hl, ?_⟩
  obtain ⟨h0, h1, h2, h3⟩ := lc_get hl
  have hm : j % 4 = 0 ∨ j % 4 = 1 ∨ j % 4 = 2 ∨ j % 4 = 3 := by omega
  rcases hm with hm | hm | hm | hm
  · rw [show j / 4 * 4 = j by omega, h] at h0; exact .inl ⟨hm, by simpa using h0⟩
  · rw [show j / 4 * 4 + 1 = j by omega, h] at h1; exact .inr (.inl ⟨hm, by simpa using h1⟩)
  · rw [show j / 4 * 4 + 2 = j by omega, h] at h2; exact .inr (.inr (.inl ⟨hm, by simpa using h2⟩))
  · rw [show j / 4 * 4 + 3 = j by omega, h] at h3; exact .inr (.inr (.inr ⟨hm, by simpa using h3⟩))
theorem lc_set : ∀ {ps : List L} {i : Nat} (l : L), i < ps.length → lc (ps.set i l) = ((((lc ps).set (i * 4) (.int .i64 l.op)).set (i * 4 + 1) (.int .i64 l.to)).set (i * 4 + 2) (.int .i64 l.a)).set (i * 4 + 3) (.int .i64 l.b)
  | [], i, l, h => by simp at h
  | x :: q, 0, l, h => by rw [List.set_cons_zero, lc_cons, lc_cons]; rfl
  | x :: q, i + 1, l, h => by
    have ih := lc_set (ps := q) (i := i) l (by simpa using h)
    rw [List.set_cons_succ, lc_cons, lc_cons, ih, show (i + 1) * 4 = i * 4 + 4 by omega]
    rfl

/-- What a slice's address leads to, cell by cell. -/
theorem LinesAt.cells {w : World} {a : Addr} {ps : List L} (h : LinesAt w (some a) ps) : ∀ j u, (lc ps)[j]? = some u → w.cell? (a.add j) = some u := by
  intro j u hu
  obtain ⟨l, hl, hu⟩ := lc_inv hu
  obtain ⟨b, off, e, hlt, hc⟩ := h.resolve_left (by rintro rfl; simp at hl)
  injection e with e
  subst e
  obtain ⟨h0, h1, h2, h3⟩ := hc _ _ hl
  have ea : ∀ n, (⟨b, off, none⟩ : Addr).add n = ⟨b, off + n, none⟩ := fun n => by simp [Addr.add]
  rw [ea]
  rcases hu with ⟨hm, rfl⟩ | ⟨hm, rfl⟩ | ⟨hm, rfl⟩ | ⟨hm, rfl⟩
  · rw [show off + j = off + j / 4 * 4 by omega]; exact h0
  · rw [show off + j = off + j / 4 * 4 + 1 by omega]; exact h1
  · rw [show off + j = off + j / 4 * 4 + 2 by omega]; exact h2
  · rw [show off + j = off + j / 4 * 4 + 3 by omega]; exact h3
theorem IntsAt.cells {w : World} {a : Addr} {zs : List Int} (h : IntsAt w (some a) zs) : ∀ j u, (zs.map (Value.int .i64))[j]? = some u → w.cell? (a.add j) = some u := by
  intro j u hu
  rw [List.getElem?_map, Option.map_eq_some_iff] at hu
  obtain ⟨z, hz, rfl⟩ := hu
  obtain ⟨b, off, e, hlt, hc⟩ := h.resolve_left (by rintro rfl; simp at hz)
  injection e with e
  subst e
  have ea : (⟨b, off, none⟩ : Addr).add j = ⟨b, off + j, none⟩ := by simp [Addr.add]
  rw [ea]
  exact hc _ _ hz
theorem LinesAt.none {w : World} {ps : List L} (h : LinesAt w none ps) : ps = [] := h.resolve_right (by rintro ⟨b, off, e, _⟩; cases e)
theorem IntsAt.none {w : World} {zs : List Int} (h : IntsAt w none zs) : zs = [] := h.resolve_right (by rintro ⟨b, off, e, _⟩; cases e)

theorem lines_of_own {w : World} {base : Nat} {e : TypeId} {a : Option Addr} {n c : Nat} {ps : List L} (h : w.ownsRow base e 4 (.slice a n c) n (lc ps)) : LinesAt w a ps ∧ ps.length = n := by
  have hl : ps.length = n := by have := h.1; rw [lc_length] at this; omega
  refine ⟨?_, hl⟩
  rcases h.2 with ⟨he, hn⟩ | ⟨g, cap, cur, he, _, hg, _, _, _, hx⟩
  · left; exact List.eq_nil_of_length_eq_zero (by omega)
  · injection he with ha hn hc
    subst ha
    right
    refine ⟨g, 0, rfl, hp_lt hg, fun j l hj => ?_⟩
    have key : ∀ k u, (lc ps)[k]? = some u → w.cell? ⟨g, k, Option.none⟩ = some u := fun k u hk => by
      refine hp_cell hg ?_
      rw [← hx, List.getElem?_take] at hk
      split at hk
      · simpa using hk
      · cases hk
    rw [Nat.zero_add]
    obtain ⟨h0, h1, h2, h3⟩ := lc_get hj
    exact ⟨key _ _ h0, key _ _ h1, key _ _ h2, key _ _ h3⟩

/-- A cell of an owned row is written. -/
theorem own_setCell {w : World} {base g n size c : Nat} {e : TypeId} {xs : List Value} (h : w.ownsRow base e size (.slice (some ⟨g, 0, none⟩) n c) n xs) (j : Nat) (v : Value) :
    (w.setCell ⟨g, j, none⟩ v).ownsRow base e size (.slice (some ⟨g, 0, none⟩) n c) n (xs.set j v) := by
  refine ⟨by rw [List.length_set]; exact h.1, .inr ?_⟩
  rcases h.2 with ⟨he, hn⟩ | ⟨g', cap, cur, he, hb, hg, hn, hm, hs, hx⟩
  · cases he
  · injection he with ha _ hc
    injection ha with ha
    injection ha with ha
    subst ha hc
    refine ⟨g, c, cur.setIfInBounds j v, rfl, hb, hp_put hg j v, hn, hm, by simpa using hs, ?_⟩
    rw [Array.toList_setIfInBounds, List.take_set, hx]
theorem own_free {w : World} {base g n size c : Nat} {e : TypeId} {xs : List Value} (h : w.ownsRow base e size (.slice (some ⟨g, 0, none⟩) n c) n xs) (j : Nat) : w.frozen? ⟨g, j, none⟩ = false := by
  rcases h.2 with ⟨he, hn⟩ | ⟨g', cap, cur, he, hb, hg, hn, hm, hs, hx⟩
  · cases he
  · injection he with ha _ hc
    injection ha with ha
    injection ha with ha
    subst ha
    exact hp_free hg j
theorem own_cell {w : World} {base g n size c : Nat} {e : TypeId} {xs : List Value} (h : w.ownsRow base e size (.slice (some ⟨g, 0, none⟩) n c) n xs) {j : Nat} {v : Value} (hv : xs[j]? = some v) : w.cell? ⟨g, j, none⟩ = some v := by
  rcases h.2 with ⟨he, hn⟩ | ⟨g', cap, cur, he, hb, hg, hn, hm, hs, hx⟩
  · cases he
  · injection he with ha _ hc
    injection ha with ha
    injection ha with ha
    subst ha
    refine hp_cell hg ?_
    rw [← hx, List.getElem?_take] at hv
    split at hv
    · simpa using hv
    · cases hv
theorem own_base' {w : World} {base g n size c : Nat} {e : TypeId} {xs : List Value} (h : w.ownsRow base e size (.slice (some ⟨g, 0, none⟩) n c) n xs) : base ≤ g := own_base h g rfl
theorem own_lt {w : World} {base g n size c : Nat} {e : TypeId} {xs : List Value} (h : w.ownsRow base e size (.slice (some ⟨g, 0, none⟩) n c) n xs) : g < w.heap.size := (h.lt g rfl).2
theorem own_form {w : World} {base size n : Nat} {e : TypeId} {a : Option Addr} {c : Nat} {xs : List Value} (h : w.ownsRow base e size (.slice a n c) n xs) (hn : 0 < n) : ∃ g, a = some ⟨g, 0, none⟩ := by
  rcases h.2 with ⟨he, hn'⟩ | ⟨g', cap, cur, he, _⟩
  · omega
  · injection he with ha _ _; exact ⟨g', ha⟩
theorem own_nil {w : World} {base size n : Nat} {e : TypeId} {a : Option Addr} {c : Nat} {xs : List Value} (h : w.ownsRow base e size (.slice a n c) n xs) : a = none → c = 0 := by
  rintro rfl
  rcases h.2 with ⟨he, hn'⟩ | ⟨g', cap, cur, he, _⟩
  · injection he
  · cases he
/-- A block below stays, whatever is done above. -/
theorem own_below {w w' : World} {base size n B : Nat} {e : TypeId} {v : Value} {xs : List Value} (h : w.ownsRow base e size v n xs) (hb : Below B w w') (hB : w.heap.size ≤ B) : w'.ownsRow base e size v n xs := by
  refine ⟨h.1, ?_⟩
  rcases h.2 with hn | ⟨g, cap, cur, rfl, hbg, hg, rest⟩
  · exact .inl hn
  · exact .inr ⟨g, cap, cur, rfl, hbg, hp_below hg hb (by have := hp_lt hg; omega), rest⟩
/-- The line i of an owned row is written. -/
theorem own_setLine {w : World} {base g n c : Nat} {e : TypeId} {ps : List L} (h : w.ownsRow base e 4 (.slice (some ⟨g, 0, none⟩) n c) n (lc ps)) {i : Nat} (hi : i < ps.length) (l : L) :
    ((((w.setCell ⟨g, i * 4, none⟩ (.int .i64 l.op)).setCell ⟨g, i * 4 + 1, none⟩ (.int .i64 l.to)).setCell ⟨g, i * 4 + 2, none⟩ (.int .i64 l.a)).setCell ⟨g, i * 4 + 3, none⟩ (.int .i64 l.b)).ownsRow base e 4 (.slice (some ⟨g, 0, none⟩) n c) n (lc (ps.set i l)) := by
  rw [lc_set l hi]
  exact own_setCell (own_setCell (own_setCell (own_setCell h _ _) _ _) _ _) _ _
theorem own_there {w : World} {base g n c : Nat} {e : TypeId} {ps : List L} (h : w.ownsRow base e 4 (.slice (some ⟨g, 0, none⟩) n c) n (lc ps)) {i : Nat} (hi : i < ps.length) : w.there g (i * 4) 4 := fun j hj => by
  have hl : i * 4 + j < (lc ps).length := by rw [lc_length]; omega
  obtain ⟨v, hv⟩ := get_of_lt hl
  exact ⟨by rw [own_cell h hv]; rfl, own_free h _⟩

/-- A new slice of lines. -/
def GivesLines (ps : List L) (w : World) (e : Ending) (w' : World) : Prop :=
  ∃ a c, e = .returned (.slice a ps.length c) ∧ w'.ownsRow w.heap.size 42 4 (.slice a ps.length c) ps.length (lc ps) ∧ Below w.heap.size w w'
theorem givesLines_of {w w1 : World} {v : Value} {ps : List L} {n : Nat} (hn : ps.length = n) (h : w1.ownsRow w.heap.size 42 4 v n (lc ps)) (hB : Below w.heap.size w w1) : GivesLines ps w (.returned v) w1 := by
  subst hn
  obtain ⟨a, c, rfl⟩ := own_slice h
  exact ⟨a, c, rfl, h, hB⟩
theorem givesLines_nil {w w1 : World} (hB : Below w.heap.size w w1) : GivesLines [] w (.returned (.slice none 0 0)) w1 := ⟨none, 0, rfl, World.ownsRow_nil _ _ _ _, hB⟩
/-- A new slice of lines, and a code. -/
def GivesLinesE (ps : List L) (c : Int) (w : World) (e : Ending) (w' : World) : Prop :=
  ∃ a cap, e = .returned (.tuple #[.slice a ps.length cap, .int .i64 c]) ∧ w'.ownsRow w.heap.size 42 4 (.slice a ps.length cap) ps.length (lc ps) ∧ Below w.heap.size w w'
theorem givesLinesE_nil {c : Int} {w w' : World} (hB : Below w.heap.size w w') : GivesLinesE [] c w (.returned (.tuple #[.slice none 0 0, .int .i64 c])) w' := ⟨none, 0, rfl, World.ownsRow_nil _ _ _ _, hB⟩
theorem GivesLines.wide {ps : List L} {w w0 : World} {e : Ending} {w' : World} (h : GivesLines ps w e w') (hB : Below w0.heap.size w0 w) : GivesLines ps w0 e w' := by
  obtain ⟨a, c, he, ho, hb⟩ := h
  exact ⟨a, c, he, own_mono ho hB.size, hB.trans (hb.mono hB.size)⟩
theorem GivesLinesE.wide {ps : List L} {x : Int} {w w0 : World} {e : Ending} {w' : World} (h : GivesLinesE ps x w e w') (hB : Below w0.heap.size w0 w) : GivesLinesE ps x w0 e w' := by
  obtain ⟨a, c, he, ho, hb⟩ := h
  exact ⟨a, c, he, own_mono ho hB.size, hB.trans (hb.mono hB.size)⟩

theorem cell_alloc_keep {w : World} {o : Obj} {ad : Addr} {v : Value} (h : w.cell? ad = some v) : (w.alloc o).cell? ad = some v := (((Below.refl w.heap.size w).alloc (Nat.le_refl _) o).cell (p := ad) (World.block_lt_of_cell? w ad h)).trans h
theorem info_line : (Tryz.prog.info? 42).map (fun i => (i.zero, i.size, i.bytes)) = some (some (.agg #[.int .i64 0, .int .i64 0, .int .i64 0, .int .i64 0]), 4, 32) := by kernel_rfl

set_option maxRecDepth 100000 in
set_option maxHeartbeats 400000 in
theorem cloneLines_any (a : Option Addr) (cap : Nat) (ps : List L) (w : World) (hp : LinesAt w a ps) (hm : ps.length ≤ 1000) :
    Calls Tryz.prog 91 #[.slice a ps.length cap] w (GivesLines ps w) := by
  obtain ⟨i0, hi, hz0, hz1, hz2⟩ := info_parts info_line
  cases a with
  | none =>
    have hps := hp.none
    subst hps
    have hnil := fun (w : World) => Lib.run_eql_slice_nil (P := Tryz.prog) w 22 42 none 0 cap 0 0 Tryz.underlying22
    clear hp hm
    go_enter Tryz.func91, Tryz.ntmps91
    go_wp2_with fail
    go_ret
    exact givesLines_nil (Below.refl _ _)
  | some ad =>
    have HC := Lib.hid hp.cells
    have hnil := fun (w : World) => Lib.run_eql_slice_nil (P := Tryz.prog) w 22 42 (some ad) ps.length cap 0 0 Tryz.underlying22
    have hown := World.ownsRow_lit (base := w.heap.size) (e := 42) (size := 4) w #[] 0 (Nat.le_refl _) (by simp [maxLen]) (by simp)
    clear hp
    go_enter Tryz.func91, Tryz.ntmps91
    go_wp2_with (at_builtin; (refine wpList_append_own _ rfl (.tmp 5) (.tmp 6) 22 rfl w.heap.size 42 i0 (.agg #[.int .i64 0, .int .i64 0, .int .i64 0, .int .i64 0]) 4 32 Tryz.underlying22 hi hz0 hz1 hz2 rfl (by decide) _ 0 [] rfl hown ad ps.length cap (lc ps) rfl ?c1 ?c2 ?c3 ?c4 ?c5 ?c6 ?_))
    case c1 => exact lc_length ps
    case c2 => intro j u hu; exact cell_alloc_keep (HC.out j u hu)
    case c3 => exact lc_one ps
    case c4 => simp [maxLen]; omega
    case c5 => omega
    intro v' w1 hown1 hgrow _
    have hB : Below w.heap.size w w1 := ((Below.refl _ _).alloc (Nat.le_refl _) _).grown hgrow (by simp) (by rintro k hk; simp [Value.ownBlock] at hk; omega)
    have HO := Lib.hid hown1
    clear hown1 hown hgrow
    go_wp2
    go_ret
    exact givesLines_of rfl HO.out hB

end Go.Proofs.YtfclfmloceddfaaGreat
