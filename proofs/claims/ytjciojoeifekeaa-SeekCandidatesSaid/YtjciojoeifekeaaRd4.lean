/- Several texts in one. -/
import Derived.Test.YtjciojoeifekeaaPtW
import Derived.BigQuiet
import Derived.Deep.QuietTactic
import Derived.StillTailTactics
import Derived.Test.YtjciojoeifekeaaPtZ
import Derived.Test.YtjciojoeifekeaaRefB
/- Validate of the document's side (patches): contract. -/
set_option linter.unusedVariables false
set_option linter.unusedSimpArgs false
namespace Tinker
theorem set_snoc {l : List Int} {x : Int} (h : isSetB l = true) (hx : ∀ y, l[l.length - 1]? = some y → y < x) : isSetB (l ++ [x]) = true := by
  rw [isSetB_iff] at h ⊢
  intro i hi
  rw [List.length_append, List.length_singleton] at hi
  by_cases h1 : i + 1 < l.length
  · have := h i h1
    rw [List.getD_eq_getElem?_getD, List.getD_eq_getElem?_getD] at this ⊢
    rwa [List.getElem?_append_left (by omega), List.getElem?_append_left (by omega)]
  · have h2 : i + 1 = l.length := by omega
    obtain ⟨y, hy⟩ := get_of_lt (show i < l.length by omega)
    have := hx y (by rw [show l.length - 1 = i by omega]; exact hy)
    rw [List.getD_eq_getElem?_getD, List.getD_eq_getElem?_getD, List.getElem?_append_left (by omega), hy, List.getElem?_append_right (by omega), h2]
    simpa using this
end Tinker
namespace Go.Proofs.Ytjciojoeifekeaa
open Go.RowKit Tinker

/-- The first k edits are as they must be. -/
def vxTo (xs : List E) (k : Nat) : Prop := isSetB (pl (xs.take k)) = true ∧ (xs.take k).all (fun e => btw e.at_ 0 7 && isLn e.ln) = true
theorem vxTo_step {xs : List E} {k : Nat} {e : E} (h : vxTo xs k) (he : xs[k]? = some e) (h1 : (btw e.at_ 0 7 && isLn e.ln) = true) (h2 : ∀ q e', k = q + 1 → xs[q]? = some e' → e'.at_ < e.at_) : vxTo xs (k + 1) := by
  have hk : k < xs.length := (List.getElem?_eq_some_iff.1 he).1
  refine ⟨?_, all_snoc h.2 he h1⟩
  rw [List.take_add_one, he]
  show isSetB (pl (xs.take k ++ [e])) = true
  have e1 : pl (xs.take k ++ [e]) = pl (xs.take k) ++ [e.at_] := by unfold pl; rw [List.map_append]; rfl
  rw [e1]
  refine set_snoc h.1 fun y hy => ?_
  rw [plLen, List.length_take, Nat.min_eq_left (by omega)] at hy
  unfold pl at hy
  rw [List.getElem?_map, Option.map_eq_some_iff] at hy
  obtain ⟨e', he', rfl⟩ := hy
  cases k with
  | zero => simp at he'
  | succ q =>
    refine h2 q e' rfl ?_
    rw [List.getElem?_take] at he'
    split at he'
    · simpa using he'
    · cases he'
theorem vx_row {xs : List E} {q : Nat} {e e' : E} (h4 : xs.length ≤ 4) (he' : xs[q]? = some e') (he : xs[q + 1]? = some e) (h : e.at_ ≤ e'.at_) : vx xs = 1 := by
  refine vx_set h4 (isSetB_no (k := q) (x := e'.at_) (y := e.at_) ?_ ?_ h)
  · unfold pl; rw [List.getElem?_map, he']; rfl
  · unfold pl; rw [List.getElem?_map, he]; rfl
theorem vx_el {xs : List E} {k : Nat} {e : E} (h4 : xs.length ≤ 4) (he : xs[k]? = some e) (h : (btw e.at_ 0 7 && isLn e.ln) = false) : vx xs = 1 :=
  vx_bad h4 (by rw [List.all_eq_false]; exact ⟨e, mem_of_get he, by rw [h]; simp⟩)

end Go.Proofs.Ytjciojoeifekeaa

/- Do, Inverse of the document's side (patches): contracts. -/
set_option linter.unusedVariables false
set_option linter.unusedSimpArgs false
namespace Go.Proofs.Ytjciojoeifekeaa
open Go.RowKit Tinker

/-- Whether all places are lines, for the document's side: codes. -/
def plcC (ps : List L) (xs : List E) : Int := if xs.all (fun e => decide (e.at_ < (ps.length : Int))) then 0 else 4
theorem plc_vpx {ps : List L} {xs : List E} (h : fe (vp ps) (vx xs) = 0) : vpx ps xs 0 = plcC ps xs := by
  obtain ⟨h1, h2⟩ := fe_0 h
  unfold vpx plcC
  rw [h]
  rw [if_pos (show fe (0 : Int) 0 = 0 from rfl)]
  have h3 := (vx_ok h2).2.2
  have : allBtw (pl xs) 0 ((ps.length : Int) - 1) = xs.all (fun e => decide (e.at_ < (ps.length : Int))) := by
    unfold allBtw pl
    rw [List.all_map, Bool.eq_iff_iff, List.all_eq_true, List.all_eq_true]
    constructor
    · intro h e he
      have := btw_true.1 (h e he)
      exact decide_eq_true (by omega)
    · intro h e he
      have := of_decide_eq_true (h e he)
      have := h3 e he
      exact btw_true.2 (by omega)
  rw [this]

/-- done -/
theorem done_mark : True := trivial
end Go.Proofs.Ytjciojoeifekeaa
