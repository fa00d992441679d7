/- Plain mathematics of programs and states: no Go in it. -/
set_option linter.unusedVariables false
set_option linter.unusedSimpArgs false
namespace Tinker

/-- A line: its operation and its three numbers. -/
structure L where
  op : Int
  to : Int
  a : Int
  b : Int

def btw (n lo hi : Int) : Bool := decide (lo ≤ n) && decide (n ≤ hi)

def isReg (n : Int) : Bool := btw n 0 3

/-- Which lines are valid. -/
def isLn (l : L) : Bool :=
  if l.op = 0 then l.to == 0 && l.a == 0 && l.b == 0
  else if l.op = 1 then isReg l.to && btw l.a (-9) 9 && l.b == 0
  else if l.op = 2 then isReg l.to && isReg l.a && l.b == 0
  else if 3 ≤ l.op ∧ l.op ≤ 6 then isReg l.to && isReg l.a && isReg l.b
  else if l.op = 7 then btw l.to 1 8 && isReg l.a && isReg l.b
  else false

def wr (l : L) : Bool := l.op != 0 && l.op != 7

def cutv (n : Int) : Int := max (-999) (min n 999)

/-- The number of a register in a state. -/
def rg (s : List Int) (n : Int) : Int := s.getD n.toNat 0

/-- What a line that writes makes of a state. -/
def valOf (l : L) (s : List Int) : Int :=
  if l.op = 1 then l.a
  else if l.op = 2 then rg s l.a
  else if l.op = 3 then rg s l.a + rg s l.b
  else if l.op = 4 then rg s l.a - rg s l.b
  else if l.op = 5 then min (rg s l.a) (rg s l.b)
  else max (rg s l.a) (rg s l.b)

def skips (l : L) (s : List Int) : Bool := l.op == 7 && decide (rg s l.a < rg s l.b)

theorem btw_true' {n lo hi : Int} : btw n lo hi = true ↔ lo ≤ n ∧ n ≤ hi := by simp [btw]
/-- What a number of a line may be, by its kind. -/
def allowsK (k n : Int) : Bool := if k = 1 then isReg n else if k = 2 then btw n (-9) 9 else if k = 3 then btw n 1 8 else n == 0

/-- Which registers a valid line reads. -/
def rd (l : L) : List Bool :=
  let s := if 2 ≤ l.op then [false, false, false, false].set l.a.toNat true else [false, false, false, false]
  if 3 ≤ l.op then s.set l.b.toNat true else s

theorem rd_length (l : L) : (rd l).length = 4 := by unfold rd; split <;> split <;> simp

theorem isReg_iff {n : Int} : isReg n = true ↔ 0 ≤ n ∧ n ≤ 3 := by simp [isReg, btw]
/-- What is known of a valid line's numbers. -/
theorem isLn_op {l : L} (h : isLn l = true) : 0 ≤ l.op ∧ l.op ≤ 7 := by
  unfold isLn at h
  split at h <;> (try omega)
  split at h <;> (try omega)
  split at h <;> (try omega)
  split at h <;> (try omega)
  split at h <;> (try omega)
  cases h
theorem isLn_to {l : L} (h : isLn l = true) (h1 : 1 ≤ l.op) (h2 : l.op ≤ 6) : 0 ≤ l.to ∧ l.to ≤ 3 := by
  unfold isLn at h
  rw [if_neg (by omega)] at h
  split at h
  · simp only [Bool.and_eq_true] at h; exact isReg_iff.1 h.1.1
  · split at h
    · simp only [Bool.and_eq_true] at h; exact isReg_iff.1 h.1.1
    · rw [if_pos (by omega)] at h
      simp only [Bool.and_eq_true] at h; exact isReg_iff.1 h.1.1
theorem isLn_a {l : L} (h : isLn l = true) (h1 : 2 ≤ l.op) : 0 ≤ l.a ∧ l.a ≤ 3 := by
  have h7 := isLn_op h
  unfold isLn at h
  rw [if_neg (by omega), if_neg (by omega)] at h
  split at h
  · simp only [Bool.and_eq_true] at h; exact isReg_iff.1 h.1.2
  · split at h
    · simp only [Bool.and_eq_true] at h; exact isReg_iff.1 h.1.2
    · rw [if_pos (by omega)] at h
      simp only [Bool.and_eq_true] at h; exact isReg_iff.1 h.1.2
theorem isLn_b {l : L} (h : isLn l = true) (h1 : 3 ≤ l.op) : 0 ≤ l.b ∧ l.b ≤ 3 := by
  have h7 := isLn_op h
  unfold isLn at h
  rw [if_neg (by omega), if_neg (by omega), if_neg (by omega)] at h
  split at h
  · simp only [Bool.and_eq_true] at h; exact isReg_iff.1 h.2
  · rw [if_pos (by omega)] at h
    simp only [Bool.and_eq_true] at h; exact isReg_iff.1 h.2
theorem isLn_skip {l : L} (h : isLn l = true) (h1 : l.op = 7) : 1 ≤ l.to ∧ l.to ≤ 8 := by
  unfold isLn at h
  rw [if_neg (by omega), if_neg (by omega), if_neg (by omega), if_neg (by omega), if_pos h1] at h
  simp only [Bool.and_eq_true] at h; exact btw_true'.1 h.1.1

theorem btw_eq (n lo hi : Int) : btw n lo hi = (decide (lo ≤ n) && decide (n ≤ hi)) := rfl
theorem btw_true {n lo hi : Int} : btw n lo hi = true ↔ lo ≤ n ∧ n ≤ hi := by simp [btw]
theorem btw_false {n lo hi : Int} (h : n < lo ∨ hi < n) : btw n lo hi = false := by
  simp only [btw, Bool.and_eq_false_iff, decide_eq_false_iff_not]; omega
theorem cutv_low {n : Int} (h : n ≤ -999) : cutv n = -999 := by unfold cutv; omega
theorem cutv_high {n : Int} (h : 999 ≤ n) : cutv n = 999 := by unfold cutv; omega
theorem cutv_mid {n : Int} (h : -999 ≤ n) (h' : n ≤ 999) : cutv n = n := by unfold cutv; omega
theorem cutv_bd (n : Int) : -999 ≤ cutv n ∧ cutv n ≤ 999 := by unfold cutv; omega

end Tinker
