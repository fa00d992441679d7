/- Validate, ValidateState, asked, Cut, value of the document's answers: contracts. -/
import Derived.Test.YtmideaancmpafacLineC
set_option linter.unusedVariables false
set_option linter.unusedSimpArgs false
namespace Go.Proofs.Ytmideaancmpafac
open Go.RowKit Tinker

end Go.Proofs.Ytmideaancmpafac
