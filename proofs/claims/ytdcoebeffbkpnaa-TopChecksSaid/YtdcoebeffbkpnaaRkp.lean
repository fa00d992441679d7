/- Several texts in one. -/
import Derived.Test.YtdcoebeffbkpnaaStR
import Derived.Test.YtdcoebeffbkpnaaStC
import Derived.Test.YtdcoebeffbkpnaaGdB
import Derived.Test.YtdcoebeffbkpnaaChkP
/- The document's bad states: contract. -/
set_option linter.unusedVariables false
set_option linter.unusedSimpArgs false
namespace Go.Proofs.Ytdcoebeffbkpnaa
open Go.RowKit Tinker

/-- The bad states. -/
def bdS (ps : List L) (lo hi : List Int) (out mn mx : Int) : List (List Int) := (allS lo hi).filter fun s => !gdP ps out mn mx s
theorem take_more {α : Type} {xs : List α} {k : Nat} {x : α} (h : xs[k]? = some x) : xs.take (k + 1) = xs.take k ++ [x] := by
  rw [List.take_add_one, h]; rfl
theorem filt_yes {α : Type} {p : α → Bool} {xs : List α} {k : Nat} {x : α} (h : xs[k]? = some x) (hp : p x = true) : (xs.take (k + 1)).filter p = (xs.take k).filter p ++ [x] := by
  rw [take_more h, List.filter_append]; simp [hp]
theorem filt_no {α : Type} {p : α → Bool} {xs : List α} {k : Nat} {x : α} (h : xs[k]? = some x) (hp : p x = false) : (xs.take (k + 1)).filter p = (xs.take k).filter p := by
  rw [take_more h, List.filter_append]; simp [hp]
theorem filt_le {α : Type} (p : α → Bool) (xs : List α) (k : Nat) : ((xs.take k).filter p).length ≤ k :=
  Nat.le_trans (List.length_filter_le _ _) (by rw [List.length_take]; omega)
theorem mem_st {lo hi s : List Int} (hc : OkC lo hi) {k : Nat} (h : (allS lo hi)[k]? = some s) : inBx lo hi 4 s ∧ vs s = 0 :=
  have h1 := exTo_in lo hi 4 s (mem_of_get h)
  ⟨h1, inBx_vs hc h1⟩

end Go.Proofs.Ytdcoebeffbkpnaa

/- Contracts of the document: contracted, Keeps, Bad, First. -/
set_option linter.unusedVariables false
set_option linter.unusedSimpArgs false
namespace Go.Proofs.Ytdcoebeffbkpnaa
open Go.RowKit Tinker

theorem bdS_none (ps : List L) (lo hi : List Int) (out mn mx : Int) : ((allS lo hi).find? fun s => !gdP ps out mn mx s) = (bdS ps lo hi out mn mx)[0]? := by
  unfold bdS; rw [← List.head?_eq_getElem?, List.head?_filter]
/-- How many states are bad. -/
def bdN (ps : List L) (lo hi : List Int) (out mn mx : Int) : Int := if vpc ps lo hi out mn mx = 0 then ((bdS ps lo hi out mn mx).length : Int) else 0
theorem bdN_ok {ps : List L} {lo hi : List Int} {out mn mx : Int} (h : vpc ps lo hi out mn mx = 0) : bdN ps lo hi out mn mx = ((bdS ps lo hi out mn mx).length : Int) := by unfold bdN; rw [if_pos h]
theorem bdN_no {ps : List L} {lo hi : List Int} {out mn mx : Int} (h : vpc ps lo hi out mn mx ≠ 0) : bdN ps lo hi out mn mx = 0 := by unfold bdN; rw [if_neg h]
theorem kpB_len {ps : List L} {lo hi : List Int} {out mn mx : Int} (h : vpc ps lo hi out mn mx = 0) : kpB ps lo hi out mn mx = decide (((bdS ps lo hi out mn mx).length : Int) = 0) := by
  rw [kpB_ok h, fbL_ok h, bdS_none]
  cases bdS ps lo hi out mn mx with
  | nil => rfl
  | cons x t => rw [decide_eq_false (by simp; omega)]; rfl

end Go.Proofs.Ytdcoebeffbkpnaa
