/-
  Tr, Th, Tc: in one text.
-/
import Derived.Test.YtmgppdjbmhjmbaaGreatLu
import Derived.Test.YtmgppdjbmhjmbaaGreatLm
import Derived.Test.YtmgppdjbmhjmbaaGreatLta
import Derived.Test.YtmgppdjbmhjmbaaGreatLt
namespace Go.Proofs.YtmgppdjbmhjmbaaGreat
open Go.RowKit
set_option maxRecDepth 100000
set_option linter.unusedSimpArgs false
set_option linter.unusedVariables false

end Go.Proofs.YtmgppdjbmhjmbaaGreat
namespace Go.Proofs.YtmgppdjbmhjmbaaGreat
open Go.RowKit
set_option maxRecDepth 100000
set_option linter.unusedSimpArgs false
set_option linter.unusedVariables false

section
variable {B : Nat} {w w' : World} {p s g : Nat} {A : Option Addr} {c : Nat} {L : List Ins}
end
end Go.Proofs.YtmgppdjbmhjmbaaGreat
namespace Go.Proofs.YtmgppdjbmhjmbaaGreat
open Go.RowKit
set_option maxRecDepth 100000
set_option linter.unusedSimpArgs false
set_option linter.unusedVariables false

def KTHeight (F : Fct) : Prop := ∀ (A : Option Addr) (c n : Nat) (Z : List Rx) (w : World), F.p w → Rw w A c Z → Z.length = n → n ≤ 300 → (∀ z ∈ Z, z.K.length ≤ 1000000) → Calls Tryz.prog 54 #[.slice A n c] w fun e w' => e = .returned (.int .i64 (hg10 (Z.map rz))) ∧ Below w.heap.size w w'
end Go.Proofs.YtmgppdjbmhjmbaaGreat
