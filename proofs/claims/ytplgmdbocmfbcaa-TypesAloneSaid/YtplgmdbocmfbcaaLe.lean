/-
  Vref: in one text.
-/
import Derived.Test.YtplgmdbocmfbcaaLd
import Derived.Test.YtplgmdbocmfbcaaLb
import Derived.Test.YtplgmdbocmfbcaaLc
namespace Go.Proofs.Ytplgmdbocmfbcaa
open Go.RowKit
set_option linter.unusedSimpArgs false
set_option linter.unusedVariables false

end Go.Proofs.Ytplgmdbocmfbcaa
