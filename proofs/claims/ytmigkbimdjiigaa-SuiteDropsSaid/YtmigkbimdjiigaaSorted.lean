/- sorted, Passing, Failing of the document's answers; Many: contracts. -/
import Derived.Test.YtmigkbimdjiigaaWhich
set_option linter.unusedVariables false
set_option linter.unusedSimpArgs false
namespace Go.Proofs.Ytmigkbimdjiigaa
open Go.RowKit Tinker

/-- Whether tests are many, or long. -/
def manyB (ts : List T) : Bool := decide (50 < ts.length) || ts.any (fun t => decide (100 < t.inn.length))
theorem many_no {ts : List T} (h : manyB ts = false) : ts.length ≤ 50 ∧ ∀ t ∈ ts, t.inn.length ≤ 100 := by
  unfold manyB at h
  simp only [Bool.or_eq_false_iff, decide_eq_false_iff_not] at h
  refine ⟨by omega, fun t ht => ?_⟩
  have := h.2
  rw [List.any_eq_false] at this
  have := this t ht
  simp at this
  omega

/-- Each one does just one of both. -/
theorem plc_both (f : T → Bool) : ∀ (ts : List T) (k : Nat), k ≤ ts.length → (plcTo (ts.map fun t => f t == true) k).length + (plcTo (ts.map fun t => f t == false) k).length = k
  | ts, 0, _ => by simp [plcTo]
  | ts, k + 1, h => by
    have ih := plc_both f ts k (by omega)
    obtain ⟨t, ht⟩ := get_of_lt (show k < ts.length by omega)
    cases hf : f t
    · rw [plcTo_no (l := ts.map fun t => f t == true) (by rw [List.getElem?_map, ht]; simp [hf]), plcTo_yes (l := ts.map fun t => f t == false) (by rw [List.getElem?_map, ht]; simp [hf])]
      rw [List.length_append]; simp only [List.length_singleton]; omega
    · rw [plcTo_yes (l := ts.map fun t => f t == true) (by rw [List.getElem?_map, ht]; simp [hf]), plcTo_no (l := ts.map fun t => f t == false) (by rw [List.getElem?_map, ht]; simp [hf])]
      rw [List.length_append]; simp only [List.length_singleton]; omega
theorem pL_both {ps : List L} {ts : List T} (h : vpt ps ts = 0) : (pL true ps ts).length + (pL false ps ts).length = ts.length := by
  rw [pL_ok h, pL_ok h]
  have := plc_both (pas ps) ts ts.length (Nat.le_refl _)
  unfold plc
  rw [List.length_map, List.length_map]
  exact this
theorem pL_le (b : Bool) (ps : List L) (ts : List T) : (pL b ps ts).length ≤ ts.length := by
  unfold pL
  split
  · have := plcTo_length (ts.map fun t => pas ps t == b) (ts.map fun t => pas ps t == b).length
    unfold plc
    simp only [List.length_map] at this ⊢
    exact this
  · simp

end Go.Proofs.Ytmigkbimdjiigaa
