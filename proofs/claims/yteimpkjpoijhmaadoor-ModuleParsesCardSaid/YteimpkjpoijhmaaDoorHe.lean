/-
  That the chapter's examples hold (the statements' 'awake' of layer 7), and 'told'; nothing that was there has changed.
-/
import Derived.Test.YteimpkjpoijhmaaDoorLp
import Derived.Test.YteimpkjpoijhmaaDoorHq
namespace Go.Proofs.YteimpkjpoijhmaaDoor
open Go.RowKit
set_option maxRecDepth 100000
set_option linter.unusedSimpArgs false
set_option linter.unusedVariables false

/-- Is reading some bytes told that error? -/
def tl7 (l : List Int) (e : Int) : Bool := mS (rdQ l 0).1 Mh.zero && ((rdQ l 0).2.1 == 0 && (rdQ l 0).2.2 == e)
end Go.Proofs.YteimpkjpoijhmaaDoor
