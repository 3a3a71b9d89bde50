/-
  The reference's Copy in the form that the law ModuleTells asks.
-/
import Derived.Test.YteimpkjpoijhmaaDoorMv
import Derived.Test.YteimpkjpoijhmaaDoorRcp
namespace Go.Proofs.YteimpkjpoijhmaaDoor
open Go.RowKit

theorem r8copy : RCopy := fun y d w hq hg => (r8copyw y d w hq hg).mono fun _ _ ⟨t, h1, h2, _, h3⟩ => ⟨t, h1, h2, h3⟩
end Go.Proofs.YteimpkjpoijhmaaDoor
