/-
  Layer 8: the listed tables together (value.widths, method's six fields).
-/
import Derived.Test.YteimpkjpoijhmaaDoorHo
import Derived.Test.YteimpkjpoijhmaaDoorLd
namespace Go.Proofs.YteimpkjpoijhmaaDoor
open Go.RowKit
abbrev fWM : Fct := ⟨fun w => GW w ∧ GM w, fun w w' h hb => ⟨fG.keep w w' h.1 hb, h.2.keep hb⟩⟩
end Go.Proofs.YteimpkjpoijhmaaDoor
