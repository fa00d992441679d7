/- Several texts in one. -/
import Derived.Test.YtmigkbimdjiigaaRefC
import Derived.Test.YtmigkbimdjiigaaHas
/- Contracts: what is valid, how large a box is; contracts of package check. -/
set_option linter.unusedVariables false
set_option linter.unusedSimpArgs false
namespace Go.Proofs.Ytmigkbimdjiigaa
open Go.RowKit Tinker

def leTo (lo hi : List Int) (k : Nat) : Bool := (List.range k).all fun i => decide (lo.getD i 0 ≤ hi.getD i 0)
def prd (lo hi : List Int) : Nat → Int
  | 0 => 1
  | k + 1 => prd lo hi k * (hi.getD k 0 - lo.getD k 0 + 1)
def numC (out mn mx : Int) : Bool := isReg out && (btw mn (-999) 999 && (btw mx (-999) 999 && decide (mn ≤ mx)))
def isCon (lo hi : List Int) (out mn mx : Int) : Bool := decide (vs lo = 0) && (decide (vs hi = 0) && (leTo lo hi 4 && numC out mn mx))
def vcon (lo hi : List Int) (out mn mx : Int) : Int := if isCon lo hi out mn mx then (if 400 < prd lo hi 4 then 3 else 0) else 1
def boxN (lo hi : List Int) (out mn mx : Int) : Int := if vcon lo hi out mn mx = 0 then prd lo hi 4 else 0
theorem leTo_succ {lo hi : List Int} {k : Nat} : leTo lo hi (k + 1) = (leTo lo hi k && decide (lo.getD k 0 ≤ hi.getD k 0)) := by
  unfold leTo; rw [List.range_succ, List.all_append]; simp
theorem leTo_le {lo hi : List Int} {k m : Nat} (h : leTo lo hi m = true) (hk : k < m) : lo.getD k 0 ≤ hi.getD k 0 := by
  have := List.all_eq_true.1 h k (List.mem_range.2 hk)
  simpa using this
theorem isCon_1 {lo hi : List Int} {out mn mx : Int} (h : vs lo ≠ 0) : isCon lo hi out mn mx = false := by unfold isCon; simp [h]
theorem isCon_2 {lo hi : List Int} {out mn mx : Int} (h : vs hi ≠ 0) : isCon lo hi out mn mx = false := by unfold isCon; simp [h]
theorem isCon_3 {lo hi : List Int} {out mn mx : Int} (h : leTo lo hi 4 = false) : isCon lo hi out mn mx = false := by unfold isCon; simp [h]
theorem leTo_not {lo hi : List Int} {k m : Nat} (hk : k < m) (h : ¬ lo.getD k 0 ≤ hi.getD k 0) : leTo lo hi m = false := by
  cases hc : leTo lo hi m
  · rfl
  · exact absurd (leTo_le hc hk) h
theorem isCon_4 {lo hi : List Int} {out mn mx : Int} (h1 : vs lo = 0) (h2 : vs hi = 0) (h3 : leTo lo hi 4 = true) : isCon lo hi out mn mx = numC out mn mx := by unfold isCon; simp [h1, h2, h3]
theorem isCon_ok {lo hi : List Int} {out mn mx : Int} (h : isCon lo hi out mn mx = true) : vs lo = 0 ∧ vs hi = 0 ∧ leTo lo hi 4 = true ∧ isReg out = true ∧ btw mn (-999) 999 = true ∧ btw mx (-999) 999 = true ∧ mn ≤ mx := by
  unfold isCon numC at h
  simp only [Bool.and_eq_true, decide_eq_true_eq] at h
  obtain ⟨a, b, c, d, e, f, g⟩ := h
  exact ⟨a, b, c, d, e, f, g⟩
theorem getD_vs {s : List Int} (h : vs s = 0) {k : Nat} (hk : k < 4) : -999 ≤ s.getD k 0 ∧ s.getD k 0 ≤ 999 := by
  obtain ⟨h4, hb⟩ := vs_ok h
  obtain ⟨x, hx⟩ := get_of_lt (show k < s.length by omega)
  rw [getD_of_get hx]
  exact hb x (mem_of_get hx)
/-- Each factor is from 1 to 1999. -/
theorem fac {lo hi : List Int} (h1 : vs lo = 0) (h2 : vs hi = 0) (h3 : leTo lo hi 4 = true) {k : Nat} (hk : k < 4) : 1 ≤ hi.getD k 0 - lo.getD k 0 + 1 ∧ hi.getD k 0 - lo.getD k 0 + 1 ≤ 1999 := by
  have := leTo_le h3 hk
  have := getD_vs h1 hk
  have := getD_vs h2 hk
  omega
theorem mul_le' {a b m n : Int} (h1 : 1 ≤ a) (h2 : a ≤ m) (h3 : 1 ≤ b) (h4 : b ≤ n) : 1 ≤ a * b ∧ a * b ≤ m * n := by
  have h := Int.mul_le_mul h2 h4 (by omega) (by omega)
  have h' := Int.mul_le_mul h1 h3 (by omega) (by omega)
  exact ⟨by simpa using h', h⟩
theorem prd_le {lo hi : List Int} (h1 : vs lo = 0) (h2 : vs hi = 0) (h3 : leTo lo hi 4 = true) : ∀ k, k ≤ 4 → 1 ≤ prd lo hi k ∧ prd lo hi k ≤ 1999 ^ k
  | 0, _ => by simp [prd]
  | k + 1, hk => by
    have ih := prd_le h1 h2 h3 k (by omega)
    have f := fac h1 h2 h3 (show k < 4 by omega)
    have := mul_le' ih.1 ih.2 f.1 f.2
    rw [prd, Int.pow_succ]
    exact this

section
variable {x : Nat} {a b : Option Addr} {n m ca cb : Nat} {out mn mx : Int} {w W W' : World}
end

end Go.Proofs.Ytmigkbimdjiigaa

/- ValidateContract, Box: package check and the document's answers. -/
set_option linter.unusedVariables false
set_option linter.unusedSimpArgs false
namespace Go.Proofs.Ytmigkbimdjiigaa
open Go.RowKit Tinker

theorem vcon_no {lo hi : List Int} {out mn mx : Int} (h : isCon lo hi out mn mx = false) : vcon lo hi out mn mx = 1 := by unfold vcon; rw [h]; rfl
theorem vcon_yes {lo hi : List Int} {out mn mx : Int} (h : isCon lo hi out mn mx = true) : vcon lo hi out mn mx = if 400 < prd lo hi 4 then 3 else 0 := by unfold vcon; rw [h]; rfl

end Go.Proofs.Ytmigkbimdjiigaa
