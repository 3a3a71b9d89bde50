/-
  Vref: in one text.
-/
import Derived.Test.YtfbabbddiplgkaaLd
import Derived.Test.YtfbabbddiplgkaaLb
import Derived.Test.YtfbabbddiplgkaaLc
namespace Go.Proofs.Ytfbabbddiplgkaa
open Go.RowKit
set_option linter.unusedSimpArgs false
set_option linter.unusedVariables false

end Go.Proofs.Ytfbabbddiplgkaa
