/- Slice in the document's words, in memory of its own: contract. -/
import Derived.Test.YtigaklppdlknkaaGreatRSl
set_option linter.unusedVariables false
set_option linter.unusedSimpArgs false
namespace Go.Proofs.YtigaklppdlknkaaGreat
open Go.RowKit Tinker

end Go.Proofs.YtigaklppdlknkaaGreat
