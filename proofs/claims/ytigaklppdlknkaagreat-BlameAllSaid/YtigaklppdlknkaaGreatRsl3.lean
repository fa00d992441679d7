/- Slices and Diagnoses in the document's words: contracts. -/
import Derived.Test.YtigaklppdlknkaaGreatAlm
import Derived.Test.YtigaklppdlknkaaGreatRslE
set_option linter.unusedVariables false
set_option linter.unusedSimpArgs false
namespace Go.Proofs.YtigaklppdlknkaaGreat
open Go.RowKit Tinker

end Go.Proofs.YtigaklppdlknkaaGreat
