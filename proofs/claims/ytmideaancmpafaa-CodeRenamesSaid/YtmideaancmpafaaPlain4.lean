/- Plain mathematics, fourth part: places. -/
import Derived.Test.YtmideaancmpafaaPlain3
set_option linter.unusedVariables false
set_option linter.unusedSimpArgs false
namespace Tinker

/-- The places below k at which a list is true. -/
def plcTo (l : List Bool) (k : Nat) : List Int := ((List.range k).filter (fun i => l.getD i false)).map Int.ofNat
/-- The places at which a list is true. -/
def plc (l : List Bool) : List Int := plcTo l l.length

theorem plcTo_zero (l : List Bool) : plcTo l 0 = [] := rfl
theorem plcTo_yes {l : List Bool} {k : Nat} (h : l[k]? = some true) : plcTo l (k + 1) = plcTo l k ++ [(k : Int)] := by
  unfold plcTo
  rw [List.range_succ, List.filter_append, List.map_append]
  have e : [k].filter (fun i => l.getD i false) = [k] := by simp [h]
  rw [e]; rfl
theorem plcTo_no {l : List Bool} {k : Nat} (h : l[k]? = some false) : plcTo l (k + 1) = plcTo l k := by
  unfold plcTo
  rw [List.range_succ, List.filter_append, List.map_append]
  have e : [k].filter (fun i => l.getD i false) = [] := by simp [h]
  rw [e]; simp
theorem plcTo_length (l : List Bool) (k : Nat) : (plcTo l k).length ≤ k := by
  unfold plcTo
  rw [List.length_map]
  exact Nat.le_trans (List.length_filter_le _ _) (by simp)

end Tinker
