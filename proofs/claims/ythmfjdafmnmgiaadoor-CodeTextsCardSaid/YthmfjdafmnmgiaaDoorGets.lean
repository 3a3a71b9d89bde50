/-
  What octet.GetSigned answers, and bytes.Clone, for every argument; nothing that was there has changed.
-/
import Derived.Test.YthmfjdafmnmgiaaDoorGet
namespace Go.Proofs.YthmfjdafmnmgiaaDoor
open Go.RowKit

/-- GetSigned's number. -/
def sigV (l : List Int) (p : Int) : Int := wrap64 (num (cutL l p 8))

end Go.Proofs.YthmfjdafmnmgiaaDoor
