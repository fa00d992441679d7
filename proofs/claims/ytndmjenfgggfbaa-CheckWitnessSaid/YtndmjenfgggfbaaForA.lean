/- IsSet of both, validateForced: contracts. -/
import Derived.Test.YtndmjenfgggfbaaRefC
import Derived.Test.YtndmjenfgggfbaaKnownT
import Derived.IntWalk
set_option linter.unusedVariables false
set_option linter.unusedSimpArgs false
namespace Go.Proofs.Ytndmjenfgggfbaa
open Go.RowKit Tinker

/-- The first numbers are strictly ascending. -/
def AscTo (l : List Int) (k : Nat) : Prop := ∀ i, i < k → i + 1 < l.length → l.getD i 0 < l.getD (i + 1) 0
theorem ascTo_zero (l : List Int) : AscTo l 0 := fun i hi => by omega
theorem ascTo_succ {l : List Int} {k : Nat} {x y : Int} (h : AscTo l k) (hx : l[k]? = some x) (hy : l[k + 1]? = some y) (hxy : x < y) : AscTo l (k + 1) := fun i hi h1 => by
  rcases Nat.lt_or_ge i k with h2 | h2
  · exact h i h2 h1
  · have : i = k := by omega
    subst this
    rw [getD_of_get hx, getD_of_get hy]; exact hxy
theorem isSetB_yes {l : List Int} {k : Nat} (h : AscTo l k) (hk : l.length ≤ k + 1) : isSetB l = true := (isSetB_iff l).2 fun i hi => h i (by omega) hi
theorem isSetB_no {l : List Int} {k : Nat} {x y : Int} (hx : l[k]? = some x) (hy : l[k + 1]? = some y) (hxy : y ≤ x) : isSetB l = false := by
  rw [Bool.eq_false_iff]; intro h
  have := (isSetB_iff l).1 h k (List.getElem?_eq_some_iff.1 hy).1
  rw [getD_of_get hx, getD_of_get hy] at this
  omega

/-- The errors of what is forced. -/
def allWr (p : List L) (ls : List Int) : Bool := ls.all fun n => Tinker.wr (p.getD n.toNat ⟨0, 0, 0, 0⟩)
def fcC (p : List L) (ls vs : List Int) : Int :=
  if isSetB ls = false then 1 else if allBtw ls 0 ((p.length : Int) - 1) = false then 4 else if ls.length ≠ vs.length then 9 else if allBtw vs (-999) 999 = false then 1 else if allWr p ls = false then 6 else 0
theorem fcC_1 {p : List L} {ls vs : List Int} (h1 : isSetB ls = false) : fcC p ls vs = 1 := by unfold fcC; rw [if_pos h1]
theorem fcC_4 {p : List L} {ls vs : List Int} (h1 : isSetB ls = true) (h2 : allBtw ls 0 ((p.length : Int) - 1) = false) : fcC p ls vs = 4 := by unfold fcC; rw [if_neg (by simp [h1]), if_pos h2]
theorem fcC_9 {p : List L} {ls vs : List Int} (h1 : isSetB ls = true) (h2 : allBtw ls 0 ((p.length : Int) - 1) = true) (h3 : ls.length ≠ vs.length) : fcC p ls vs = 9 := by unfold fcC; rw [if_neg (by simp [h1]), if_neg (by simp [h2]), if_pos h3]
theorem fcC_1' {p : List L} {ls vs : List Int} (h1 : isSetB ls = true) (h2 : allBtw ls 0 ((p.length : Int) - 1) = true) (h3 : ls.length = vs.length) (h4 : allBtw vs (-999) 999 = false) : fcC p ls vs = 1 := by unfold fcC; rw [if_neg (by simp [h1]), if_neg (by simp [h2]), if_neg (by omega), if_pos h4]
theorem fcC_6 {p : List L} {ls vs : List Int} (h1 : isSetB ls = true) (h2 : allBtw ls 0 ((p.length : Int) - 1) = true) (h3 : ls.length = vs.length) (h4 : allBtw vs (-999) 999 = true) (h5 : allWr p ls = false) : fcC p ls vs = 6 := by unfold fcC; rw [if_neg (by simp [h1]), if_neg (by simp [h2]), if_neg (by omega), if_neg (by simp [h4]), if_pos h5]
theorem fcC_0 {p : List L} {ls vs : List Int} (h1 : isSetB ls = true) (h2 : allBtw ls 0 ((p.length : Int) - 1) = true) (h3 : ls.length = vs.length) (h4 : allBtw vs (-999) 999 = true) (h5 : allWr p ls = true) : fcC p ls vs = 0 := by unfold fcC; rw [if_neg (by simp [h1]), if_neg (by simp [h2]), if_neg (by omega), if_neg (by simp [h4]), if_neg (by simp [h5])]
theorem fcC_ok {p : List L} {ls vs : List Int} (h : fcC p ls vs = 0) : isSetB ls = true ∧ allBtw ls 0 ((p.length : Int) - 1) = true ∧ ls.length = vs.length ∧ allBtw vs (-999) 999 = true ∧ allWr p ls = true := by
  unfold fcC at h
  split at h
  · cases h
  · split at h
    · cases h
    · split at h
      · cases h
      · split at h
        · cases h
        · split at h
          · cases h
          · rename_i h1 h2 h3 h4 h5
            exact ⟨by simpa using h1, by simpa using h2, by omega, by simpa using h4, by simpa using h5⟩
theorem allBtw_at {l : List Int} {lo hi : Int} (h : allBtw l lo hi = true) {n : Int} (hn : n ∈ l) : lo ≤ n ∧ n ≤ hi := btw_true.1 (List.all_eq_true.1 h n hn)

end Go.Proofs.Ytndmjenfgggfbaa
