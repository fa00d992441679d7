/- CodeRenames: the walk. -/
import Derived.Test.YtmideaancmpafacRenD
import Derived.Test.YtmideaancmpafacRuns
set_option linter.unusedVariables false
set_option linter.unusedSimpArgs false
namespace Go.Proofs.Ytmideaancmpafac
open Go.RowKit Tinker

theorem renames_eq {ps : List L} {s nm : List Int} (h1 : rnC ps nm = 0) (h2 : moC s nm = 0) : vr ps s = 0 ∧ vr (rnP ps nm) (moP s nm) = 0 ∧ moC (runL ps s) nm = 0 ∧ runL (rnP ps nm) (moP s nm) = moP (runL ps s) nm := by
  obtain ⟨a, b⟩ := rnC_ok h1
  obtain ⟨c, _⟩ := moC_ok h2
  have v1 : vr ps s = 0 := by unfold vr fe; rw [if_pos a]; exact c
  have e1 : runL ps s = runE ps s := by unfold runL; rw [if_pos v1]
  have hok := runE_ok v1
  have v2 : vr (rnP ps nm) (moP s nm) = 0 := by rw [rnP_yes h1, moP_yes h2]; exact vr_ren b a c
  have v3 : moC (runL ps s) nm = 0 := by unfold moC fe nmC; rw [e1, if_pos (vs_ok' hok.1 hok.2), b]; rfl
  refine ⟨v1, v2, v3, ?_⟩
  have e2 : runL (rnP ps nm) (moP s nm) = runE (rnP ps nm) (moP s nm) := by unfold runL; rw [if_pos v2]
  rw [e2, moP_yes v3, e1, rnP_yes h1, moP_yes h2]
  exact runE_ren b (vp_ok a).2 (vs_ok c).1

end Go.Proofs.Ytmideaancmpafac
