/-
  Layer 4, package op: the names of the opcodes, as the program's own table reads; what Name and Parse answer, for every opcode and every text; the reference's too.
-/
import Derived.Test.YthmfjdafmnmgiaaOp
import Derived.Lib.Bytes
namespace Go.Proofs.Ythmfjdafmnmgiaa
open Go.RowKit
set_option linter.unusedSimpArgs false
set_option linter.unusedVariables false

def opNm : List (List UInt8) := [[110, 111, 112], [99, 111, 110, 115, 116], [103, 101, 116], [115, 101, 116], [108, 111, 97, 100], [115, 116, 111, 114, 101], [112, 111, 112], [100, 117, 112], [115, 119, 97, 112], [97, 100, 100], [115, 117, 98], [109, 117, 108], [100, 105, 118], [114, 101, 109], [108, 101, 115, 115], [115, 97, 109, 101], [112, 97, 105, 114], [114, 101], [105, 109], [112, 97, 100, 100], [112, 109, 117, 108], [99, 111, 110, 106], [110, 101, 119], [97, 116], [112, 117, 116], [108, 101, 110], [106, 117, 109, 112], [122, 101, 114, 111], [108, 111, 111, 112], [97, 103, 97, 105, 110], [99, 97, 108, 108], [114, 101, 116], [116, 114, 97, 112]]
/-- The name of an opcode; none's is empty. -/
def opS (n : Int) : ByteArray := if 0 ≤ n ∧ n < 33 then ⟨(opNm.getD n.toNat []).toArray⟩ else ⟨#[]⟩
theorem opS_none {n : Int} (h : ¬ n < 33) : opS n = ⟨#[]⟩ := by rw [opS, if_neg (by omega)]

end Go.Proofs.Ythmfjdafmnmgiaa
