/- Contracts of the document: Extremes. -/
import Derived.Test.YtdcoebeffbkpnaaRkp
set_option linter.unusedVariables false
set_option linter.unusedSimpArgs false
namespace Go.Proofs.Ytdcoebeffbkpnaa
open Go.RowKit Tinker

/-- The smallest and the greatest number at the end, from these states. -/
def xtl (ps : List L) (out : Int) (l : List (List Int)) : Int × Int := l.foldl (fun p s => (min p.1 (endP ps s out), max p.2 (endP ps s out))) (999, -999)
theorem xtl_snoc (ps : List L) (out : Int) (l : List (List Int)) (s : List Int) : xtl ps out (l ++ [s]) = (min (xtl ps out l).1 (endP ps s out), max (xtl ps out l).2 (endP ps s out)) := by
  unfold xtl; rw [List.foldl_append]; rfl
def exV (ps : List L) (lo hi : List Int) (out mn mx : Int) : Int × Int := if vpc ps lo hi out mn mx = 0 then xtl ps out (allS lo hi) else (0, 0)
theorem exV_ok {ps : List L} {lo hi : List Int} {out mn mx : Int} (h : vpc ps lo hi out mn mx = 0) : exV ps lo hi out mn mx = xtl ps out (allS lo hi) := by unfold exV; rw [if_pos h]
theorem exV_no {ps : List L} {lo hi : List Int} {out mn mx : Int} (h : vpc ps lo hi out mn mx ≠ 0) : exV ps lo hi out mn mx = (0, 0) := by unfold exV; rw [if_neg h]

end Go.Proofs.Ytdcoebeffbkpnaa
