/- Tests in the document's answers; Passes of both: contracts. -/
import Derived.Test.YtmigkbimdjiigaaChkB
import Derived.Test.YtmigkbimdjiigaaChkA
set_option linter.unusedVariables false
set_option linter.unusedSimpArgs false
namespace Go.Proofs.Ytmigkbimdjiigaa
open Go.RowKit Tinker

/-- What Passes answers. -/
def passV (ps : List L) (t : T) : Bool := if vpt ps [t] = 0 then pas ps t else false

end Go.Proofs.Ytmigkbimdjiigaa
