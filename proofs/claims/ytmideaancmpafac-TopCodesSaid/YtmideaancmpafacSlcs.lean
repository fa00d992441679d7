/- CodeSlices: the walk. -/
import Derived.Test.YtmideaancmpafacRSl
import Derived.Test.YtmideaancmpafacLines
set_option linter.unusedVariables false
set_option linter.unusedSimpArgs false
namespace Go.Proofs.Ytmideaancmpafac
open Go.RowKit Tinker

theorem slA_len (ps : List L) (s : List Int) (r : Int) : (slA ps s r).length ≤ 8 := by
  unfold slA
  split
  · rename_i h
    have hz : vr ps s = 0 := by
      unfold slCode at h
      split at h
      · assumption
      · exact h
    have := plcTo_length (sliceB ps (doneL (runS ps s)) r.toNat) (sliceB ps (doneL (runS ps s)) r.toNat).length
    unfold plc
    have e : (sliceB ps (doneL (runS ps s)) r.toNat).length = 8 := by unfold sliceB; rw [(foldSl_length _ _ _).2]; simp [sl0]
    rwa [e] at this ⊢
  · simp

end Go.Proofs.Ytmideaancmpafac
