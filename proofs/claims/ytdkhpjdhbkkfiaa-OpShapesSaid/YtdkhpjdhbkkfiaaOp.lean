/-
  Layer 4, package op: what its plain functions answer (Known, Leads, Goes, Bounds), each a contract for every opcode; the reference's too.
-/
import Derived.Test.YtdkhpjdhbkkfiaaSt
namespace Go.Proofs.Ytdkhpjdhbkkfiaa
open Go.RowKit
set_option linter.unusedSimpArgs false
set_option linter.unusedVariables false

/-- Whether it is an opcode; whether its operand leads elsewhere; whether it goes on; the least and the greatest operand. -/
def opK (n : Int) : Bool := decide (n < 33)
def opL (n : Int) : Bool := n == 26 || n == 27 || n == 29
def opG (n : Int) : Bool := opK n && n != 26 && n != 31 && n != 32
def opLo (n : Int) : Int := if n = 28 then 1 else 0
def opHi (n : Int) : Int :=
  if n = 1 then 31 else if n = 2 ∨ n = 3 ∨ n = 30 then 15 else if n = 4 ∨ n = 5 then 3 else if n = 22 then 1024 else if n = 26 ∨ n = 27 ∨ n = 29 then 199 else if n = 28 then 100 else if n = 32 then 255 else if n < 33 then 0 else -1
/-- Whether an instruction may be. -/
def opM (n a b : Int) : Bool := decide (opLo n ≤ a) && decide (a ≤ opHi n) && b == 0
end Go.Proofs.Ytdkhpjdhbkkfiaa
