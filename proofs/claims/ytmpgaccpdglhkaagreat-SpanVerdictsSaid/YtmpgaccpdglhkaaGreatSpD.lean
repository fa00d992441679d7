/- has, isWithin of boxes: contracts. -/
import Derived.Test.YtmpgaccpdglhkaaGreatSpB
set_option linter.unusedVariables false
set_option linter.unusedSimpArgs false
namespace Go.Proofs.YtmpgaccpdglhkaaGreat
open Go.RowKit Tinker

end Go.Proofs.YtmpgaccpdglhkaaGreat
