/- written of the document: contract. -/
import Derived.Test.YtmpgaccpdglhkaaGreatSrV
import Derived.Test.YtmpgaccpdglhkaaGreatSrX
import Derived.Test.YtmpgaccpdglhkaaGreatSrX2
import Derived.Test.YtmpgaccpdglhkaaGreatSrY
import Derived.Test.YtmpgaccpdglhkaaGreatSrY2
import Derived.Test.YtmpgaccpdglhkaaGreatSpE
import Derived.Test.YtmpgaccpdglhkaaGreatRefB
set_option linter.unusedVariables false
set_option linter.unusedSimpArgs false
namespace Go.Proofs.YtmpgaccpdglhkaaGreat
open Go.RowKit Tinker


set_option maxRecDepth 100000 in
set_option maxHeartbeats 8000000 in
theorem rwritten_any (a : Option Addr) (ca : Nat) (b : List Rg) (l : L) (w : World) (hr : RangesAt w a b) (hb : OkB b) (hl : isLn l = true) (hw : Tinker.wr l = true) :
    Calls Tryz.prog 73 #[lv l, .slice a b.length ca] w fun e w' => e = .returned (gv (cutG (rawG l b))) ∧ Below w.heap.size w w' := by
  have h := wr_iff.1 hw
  have ho := isLn_op hl
  rcases (show l.op = 1 ∨ l.op = 2 ∨ l.op = 3 ∨ l.op = 4 ∨ l.op = 5 ∨ l.op = 6 by omega) with h7 | h7 | h7 | h7 | h7 | h7
  · exact rwritten1 a ca b l w hr hb hl hw h7
  · exact rwritten2 a ca b l w hr hb hl hw h7
  · exact rwritten3 a ca b l w hr hb hl hw h7
  · exact rwritten4 a ca b l w hr hb hl hw h7
  · by_cases h8 : (gAt b l.b).lo < (gAt b l.a).lo
    · exact rwritten5y a ca b l w hr hb hl hw h7 h8
    · exact rwritten5n a ca b l w hr hb hl hw h7 h8
  · by_cases h8 : (gAt b l.a).lo < (gAt b l.b).lo
    · exact rwritten6y a ca b l w hr hb hl hw h7 h8
    · exact rwritten6n a ca b l w hr hb hl hw h7 h8

end Go.Proofs.YtmpgaccpdglhkaaGreat
