/-
  Pm, Pb: in one text.
-/
import Derived.Test.YtmgppdjbmhjmbaaGreatPv
import Derived.Test.YtmgppdjbmhjmbaaGreatLd
import Derived.Test.YtmgppdjbmhjmbaaGreatLa
import Derived.Test.YtmgppdjbmhjmbaaGreatLc
namespace Go.Proofs.YtmgppdjbmhjmbaaGreat
open Go.RowKit
set_option maxRecDepth 100000
set_option linter.unusedSimpArgs false
set_option linter.unusedVariables false

/-- Whether a value may be outside; whether values are a pool; where a value is first (how many values there are, if nowhere). -/
def vM (x : Vlu) : Bool := mayB x.1 x.2.1 x.2.2
def poM (L : List Vlu) : Bool := decide (L.length ≤ 32) && L.all vM
end Go.Proofs.YtmgppdjbmhjmbaaGreat
namespace Go.Proofs.YtmgppdjbmhjmbaaGreat
open Go.RowKit
set_option maxRecDepth 100000
set_option linter.unusedSimpArgs false
set_option linter.unusedVariables false

/-- A value's bytes; a pool's; the error of what is none; a pool's bytes or none. -/
def vB (x : Vlu) : List Int := valB x.1 x.2.1 x.2.2
def poB (L : List Vlu) : List Int := (L.length : Int) :: L.flatMap vB
end Go.Proofs.YtmgppdjbmhjmbaaGreat
