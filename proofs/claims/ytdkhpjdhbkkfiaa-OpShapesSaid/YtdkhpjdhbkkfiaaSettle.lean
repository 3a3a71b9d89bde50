/-
  What octet's settle does, as a deferred call: beside an error the two results are cleared, else nothing changes.
-/
import Derived.Test.YtdkhpjdhbkkfiaaJoin
namespace Go.Proofs.Ytdkhpjdhbkkfiaa
open Go.RowKit

end Go.Proofs.Ytdkhpjdhbkkfiaa
