/- CheckBlocker of both: contracts. -/
import Derived.Test.YtigaklppdlknkaaGreatRbk
import Derived.Test.YtigaklppdlknkaaGreatLst
set_option linter.unusedVariables false
set_option linter.unusedSimpArgs false
namespace Go.Proofs.YtigaklppdlknkaaGreat
open Go.RowKit Tinker

theorem eqMs_upto {ms ns : List Nat} (hl : ms.length = ns.length) (h : ∀ (j x y : Nat), ms[j]? = some x → ns[j]? = some y → x = y) : ms = ns := by
  refine List.ext_getElem? fun j => ?_
  rcases Nat.lt_or_ge j ms.length with hj | hj
  · obtain ⟨x, hx⟩ := get_of_lt hj
    obtain ⟨y, hy⟩ := get_of_lt (show j < ns.length by omega)
    rw [hx, hy, h j x y hx hy]
  · rw [List.getElem?_eq_none hj, List.getElem?_eq_none (by omega)]

/-- What CheckBlocker answers. -/
def cbC (f g : List (List Int)) : Int := if fe (vfam f) (vfam g) = 0 then (if fmM g = blkM (fmM f) then 0 else 7) else fe (vfam f) (vfam g)

theorem rowsEq_dec : ∀ fs gs : List (List Int), rowsEq fs gs = decide (fs = gs)
  | [], [] => by simp [rowsEq]
  | [], _ :: _ => by simp [rowsEq]
  | _ :: _, [] => by simp [rowsEq]
  | x :: r, y :: s => by
    rw [rowsEq, rowsEq_dec r s]
    unfold sameI
    rw [Bool.eq_iff_iff]
    simp
theorem nums_fm {g : List (List Int)} (h : ∀ s ∈ g, setB s = true) : (fmM g).map numsM = g := by
  unfold fmM
  rw [List.map_map]
  refine (List.map_congr_left (g := id) fun s hs => ?_).trans (List.map_id _)
  exact nums_maskM (h s hs)
theorem cb_eq {f g : List (List Int)} (h : ∀ s ∈ g, setB s = true) : rowsEq ((blkM (fmM f)).map numsM) g = decide (fmM g = blkM (fmM f)) := by
  rw [rowsEq_dec, decide_eq_decide]
  constructor
  · intro e
    rw [← e]
    unfold fmM
    rw [List.map_map]
    refine (List.map_congr_left (g := id) fun m hm => ?_).trans (List.map_id _)
    exact maskM_nums m (blk_lt hm)
  · intro e
    rw [← e]; exact nums_fm h

end Go.Proofs.YtigaklppdlknkaaGreat
