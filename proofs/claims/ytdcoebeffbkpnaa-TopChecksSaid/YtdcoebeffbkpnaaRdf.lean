/- Contracts of the document: Differ. -/
import Derived.Test.YtdcoebeffbkpnaaRxt
import Derived.Test.YtdcoebeffbkpnaaDif
set_option linter.unusedVariables false
set_option linter.unusedSimpArgs false
namespace Go.Proofs.Ytdcoebeffbkpnaa
open Go.RowKit Tinker

/-- What Differ answers. -/
def dfc (ps qs : List L) (lo hi : List Int) (out mn mx : Int) : Int := fe (vp ps) (vpc qs lo hi out mn mx)
theorem dfc_ok {ps qs : List L} {lo hi : List Int} {out mn mx : Int} (h : dfc ps qs lo hi out mn mx = 0) : vp ps = 0 ∧ vpc qs lo hi out mn mx = 0 := by
  unfold dfc fe at h; split at h
  · exact ⟨by assumption, h⟩
  · contradiction
def dfL (ps qs : List L) (lo hi : List Int) (out mn mx : Int) : Option (List Int) := if dfc ps qs lo hi out mn mx = 0 then (allS lo hi).find? (fun s => !eqP ps qs out s) else none
theorem dfL_no {ps qs : List L} {lo hi : List Int} {out mn mx : Int} (h : dfc ps qs lo hi out mn mx ≠ 0) : dfL ps qs lo hi out mn mx = none := by unfold dfL; rw [if_neg h]
theorem dfL_ok {ps qs : List L} {lo hi : List Int} {out mn mx : Int} (h : dfc ps qs lo hi out mn mx = 0) : dfL ps qs lo hi out mn mx = (allS lo hi).find? (fun s => !eqP ps qs out s) := by unfold dfL; rw [if_pos h]
theorem dfL_self (ps : List L) (lo hi : List Int) (out mn mx : Int) : dfL ps ps lo hi out mn mx = none := by
  unfold dfL
  split
  · rw [List.find?_eq_none]; intro s _; simp [eqP]
  · rfl
theorem find_at {α : Type} {p : α → Bool} : ∀ {xs : List α} {k : Nat} {x : α}, xs[k]? = some x → p x = true → (∀ j y, j < k → xs[j]? = some y → p y = false) → xs.find? p = some x
  | [], _, _, h, _, _ => by simp at h
  | y :: t, 0, x, h, hp, _ => by
    simp at h; subst h
    rw [List.find?_cons, hp]
  | y :: t, k + 1, x, h, hp, hn => by
    rw [List.find?_cons, hn 0 y (by omega) rfl]
    exact find_at (k := k) (by simpa using h) hp (fun j z hj hz => hn (j + 1) z (by omega) (by simpa using hz))
theorem find_no {α : Type} {p : α → Bool} {xs : List α} (h : ∀ j y, j < xs.length → xs[j]? = some y → p y = false) : xs.find? p = none := by
  rw [List.find?_eq_none]
  intro x hx
  obtain ⟨j, hj, e⟩ := List.mem_iff_getElem.1 hx
  have := h j x hj (by rw [List.getElem?_eq_getElem hj, e])
  rw [this]; simp

end Go.Proofs.Ytdcoebeffbkpnaa
