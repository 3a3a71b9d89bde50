/-
  Vref: in one text.
-/
import Derived.Test.YteimpkjpoijhmaaLd
import Derived.Test.YteimpkjpoijhmaaLb
import Derived.Test.YteimpkjpoijhmaaLc
namespace Go.Proofs.Yteimpkjpoijhmaa
open Go.RowKit
set_option linter.unusedSimpArgs false
set_option linter.unusedVariables false

end Go.Proofs.Yteimpkjpoijhmaa
