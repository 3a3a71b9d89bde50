/-
  Vref: in one text.
-/
import Derived.Test.YtmgppdjbmhjmbaaLd
import Derived.Test.YtmgppdjbmhjmbaaLb
import Derived.Test.YtmgppdjbmhjmbaaLc
namespace Go.Proofs.Ytmgppdjbmhjmbaa
open Go.RowKit
set_option linter.unusedSimpArgs false
set_option linter.unusedVariables false

end Go.Proofs.Ytmgppdjbmhjmbaa
