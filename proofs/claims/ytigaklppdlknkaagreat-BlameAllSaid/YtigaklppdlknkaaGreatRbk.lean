/- Blocker in the document's words: contracts. -/
import Derived.Test.YtigaklppdlknkaaGreatOrd
set_option linter.unusedVariables false
set_option linter.unusedSimpArgs false
namespace Go.Proofs.YtigaklppdlknkaaGreat
open Go.RowKit Tinker

/-- The smallest sets below a number. -/
def bkTo (f : List Nat) (k : Nat) : List Nat := (List.range k).filter fun m => hitsM f m && needM f m
theorem bkTo_yes {f : List Nat} {k : Nat} (h : (hitsM f k && needM f k) = true) : bkTo f (k + 1) = bkTo f k ++ [k] := by unfold bkTo; rw [List.range_succ, List.filter_append]; simp only [Bool.and_eq_true] at h; simp [h]
theorem bkTo_no {f : List Nat} {k : Nat} (h : (hitsM f k && needM f k) = false) : bkTo f (k + 1) = bkTo f k := by unfold bkTo; rw [List.range_succ, List.filter_append, List.filter_cons_of_neg (by simp [h])]; simp
theorem bkTo_len (f : List Nat) (k : Nat) : (bkTo f k).length ≤ k := by unfold bkTo; exact Nat.le_trans (List.length_filter_le _ _) (by simp)
/-- Whether none of the first numbers can be left out. -/
def ndTo (f : List Nat) (m k : Nat) : Bool := (nuTo m k).all fun n => !hitsM f (woM m n.toNat)
theorem ndTo_8 (f : List Nat) (m : Nat) : ndTo f m 8 = needM f m := rfl
theorem ndTo_no {f : List Nat} {m k : Nat} (h : m.testBit k = false) : ndTo f m (k + 1) = ndTo f m k := by unfold ndTo; rw [nuTo_no h]
theorem ndTo_yes {f : List Nat} {m k : Nat} (h : m.testBit k = true) : ndTo f m (k + 1) = (ndTo f m k && !hitsM f (woM m k)) := by unfold ndTo; rw [nuTo_yes h, List.all_append]; simp
theorem wo_int {m k : Nat} (hm : m < 256) (hk : k < 8) (hb : m.testBit k = true) : (m : Int) - 2 ^ k = ((woM m k : Nat) : Int) := by
  have h1 := wo_sub m hm k hk hb
  have h2 := Nat.ge_two_pow_of_testBit hb
  rw [powi, ← h1]
  omega

theorem bk_256 (f : List Nat) : ordL (bkTo f 256) = (blkM f).map numsM := ord_range _

end Go.Proofs.YtigaklppdlknkaaGreat
