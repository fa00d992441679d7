/- Several texts in one. -/
import Derived.Test.YtjciojoeifekeaaEdM
import Derived.Test.YtjciojoeifekeaaChkB
import Derived.Test.YtjciojoeifekeaaForB
import Derived.Test.YtjciojoeifekeaaTells
/- places and Validate of patches: contracts. -/
set_option linter.unusedVariables false
set_option linter.unusedSimpArgs false
namespace Go.Proofs.Ytjciojoeifekeaa
open Go.RowKit Tinker

/-- The places of the first k edits, and zeros. -/
def plTo (xs : List E) (k : Nat) : List Int := pl (xs.take k) ++ List.replicate (xs.length - k) 0
theorem plTo_0 (xs : List E) : plTo xs 0 = List.replicate xs.length 0 := by simp [plTo, pl]
theorem plTo_all (xs : List E) : plTo xs xs.length = pl xs := by simp [plTo]
theorem plTo_len {xs : List E} {k : Nat} (h : k ≤ xs.length) : (plTo xs k).length = xs.length := by
  unfold plTo pl
  rw [List.length_append, List.length_map, List.length_take, List.length_replicate]
  omega
theorem plTo_step {xs : List E} {k : Nat} {e : E} (h : xs[k]? = some e) : (plTo xs k).set k e.at_ = plTo xs (k + 1) := by
  have hk : k < xs.length := (List.getElem?_eq_some_iff.1 h).1
  unfold plTo pl
  rw [List.take_add_one, h, List.map_append, List.set_append_right _ _ (by simp; omega), List.length_map, List.length_take, Nat.min_eq_left (by omega), Nat.sub_self]
  have : xs.length - k = (xs.length - (k + 1)) + 1 := by omega
  rw [this, List.replicate_succ, List.set_cons_zero, List.append_assoc]
  rfl

end Go.Proofs.Ytjciojoeifekeaa

/- Validate of patches: contract. -/
set_option linter.unusedVariables false
set_option linter.unusedSimpArgs false
namespace Go.Proofs.Ytjciojoeifekeaa
open Go.RowKit Tinker

theorem vx_set {xs : List E} (h1 : xs.length ≤ 4) (h2 : isSetB (pl xs) = false) : vx xs = 1 := vx_1 h1 (by rw [h2]; rfl)
theorem vx_bad {xs : List E} (h1 : xs.length ≤ 4) (h2 : (xs.all fun e => btw e.at_ 0 7 && isLn e.ln) = false) : vx xs = 1 := vx_1 h1 (by rw [h2, Bool.and_false])
theorem vx_good {xs : List E} (h1 : xs.length ≤ 4) (h2 : isSetB (pl xs) = true) (h3 : (xs.all fun e => btw e.at_ 0 7 && isLn e.ln) = true) : vx xs = 0 := vx_0 h1 h2 (List.all_eq_true.1 h3)
theorem plLen (z : List E) : (pl z).length = z.length := by unfold pl; rw [List.length_map]

end Go.Proofs.Ytjciojoeifekeaa

/- The errors of programs, patches and tests: contract. -/
set_option linter.unusedVariables false
set_option linter.unusedSimpArgs false
namespace Go.Proofs.Ytjciojoeifekeaa
open Go.RowKit Tinker

theorem feL_three (a b c : Int) : feL [a, b, c] = fe (fe a b) c := by
  simp only [feL, fe]
  by_cases h1 : a = 0
  · by_cases h2 : b = 0
    · by_cases h3 : c = 0 <;> simp [h1, h2, h3]
    · simp [h1, h2]
  · simp [h1]

end Go.Proofs.Ytjciojoeifekeaa
