/- CodeExchanges: the walk. -/
import Derived.Test.YtmideaancmpafacExB
import Derived.Test.YtmideaancmpafacRuns
set_option linter.unusedVariables false
set_option linter.unusedSimpArgs false
namespace Go.Proofs.Ytmideaancmpafac
open Go.RowKit Tinker

theorem exch_eq {ps : List L} {n : Int} {s : List Int} (h : xcC ps n = 0) : vr (xcP ps n) s = vr ps s ∧ runL (xcP ps n) s = runL ps s := by
  obtain ⟨h1, h2⟩ := xcC_ok h
  obtain ⟨h3, h4, h5⟩ := epC_ok h1
  rw [xcP_yes h]
  have hv : vp (swp ps n.toNat) = 0 := vp_ok' (by rw [swp_length]; exact (vp_ok h3).1) fun l hl => (vp_ok h3).2 l (swp_mem h5 hl)
  have e : vr (swp ps n.toNat) s = vr ps s := by unfold vr; rw [hv, h3]
  refine ⟨e, ?_⟩
  unfold runL
  rw [e]
  split
  · unfold ceB at h2
    rw [Bool.and_eq_true, indB_in] at h2
    exact runE_swp (vp_ok h3).2 h5 h2.2 h2.1
  · rfl

end Go.Proofs.Ytmideaancmpafac
