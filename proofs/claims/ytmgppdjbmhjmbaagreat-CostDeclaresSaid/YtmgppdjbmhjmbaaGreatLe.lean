/-
  Vref: in one text.
-/
import Derived.Test.YtmgppdjbmhjmbaaGreatLd
import Derived.Test.YtmgppdjbmhjmbaaGreatLb
import Derived.Test.YtmgppdjbmhjmbaaGreatLc
namespace Go.Proofs.YtmgppdjbmhjmbaaGreat
open Go.RowKit
set_option linter.unusedSimpArgs false
set_option linter.unusedVariables false

end Go.Proofs.YtmgppdjbmhjmbaaGreat
