/-
  What octet.GetSigned answers, and bytes.Clone, for every argument; nothing that was there has changed.
-/
import Derived.Test.YthmfjdafmnmgiaaGet
namespace Go.Proofs.Ythmfjdafmnmgiaa
open Go.RowKit

/-- GetSigned's number. -/
def sigV (l : List Int) (p : Int) : Int := wrap64 (num (cutL l p 8))

end Go.Proofs.Ythmfjdafmnmgiaa
