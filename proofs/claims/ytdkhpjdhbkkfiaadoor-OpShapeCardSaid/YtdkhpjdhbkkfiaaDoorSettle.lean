/-
  What octet's settle does, as a deferred call: beside an error the two results are cleared, else nothing changes.
-/
import Derived.Test.YtdkhpjdhbkkfiaaDoorJoin
namespace Go.Proofs.YtdkhpjdhbkkfiaaDoor
open Go.RowKit

end Go.Proofs.YtdkhpjdhbkkfiaaDoor
