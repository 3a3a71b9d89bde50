/-
  Vref: in one text.
-/
import Derived.Test.YtimjnmkfbdijeaaLd
import Derived.Test.YtimjnmkfbdijeaaLb
import Derived.Test.YtimjnmkfbdijeaaLc
namespace Go.Proofs.Ytimjnmkfbdijeaa
open Go.RowKit
set_option linter.unusedSimpArgs false
set_option linter.unusedVariables false

end Go.Proofs.Ytimjnmkfbdijeaa
