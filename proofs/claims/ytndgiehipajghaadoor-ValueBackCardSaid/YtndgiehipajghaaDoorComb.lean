/-
  What gauss.combine does with each of the three operations, and Add, Sub, Mul, Conj, Measure: a contract for every argument.
-/
import Derived.Test.YtndgiehipajghaaDoorGauss
namespace Go.Proofs.YtndgiehipajghaaDoor
open Go.RowKit

def addI (a b c d : Int) : Bool := okB a b && okB c d && okB (a + c) (b + d)
def subI (a b c d : Int) : Bool := okB a b && okB c d && okB (a - c) (b - d)
def mulI (a b c d : Int) : Bool := okB a b && okB c d && okB (a * c - b * d) (a * d + b * c)
theorem new2 {w : World} {a b : Obj} : Below w.heap.size w ((w.alloc a).alloc b) := below2 (Below.refl _ _)

theorem neg_ok {a b : Int} : okB a (-b) = okB a b := by
  rw [Bool.eq_iff_iff, okB_iff, okB_iff]; omega
theorem sq_le {a : Int} (h : -1048576 ≤ a ∧ a ≤ 1048576) : 0 ≤ a * a ∧ a * a ≤ 1099511627776 := by
  have := natAbs_le h h
  have h0 : 0 ≤ a * a := by
    rcases Int.le_total 0 a with h1 | h1
    · exact Int.mul_nonneg h1 h1
    · exact Int.mul_nonneg_of_nonpos_of_nonpos h1 h1
  omega
def meas (a b : Int) : Int := if okB a b then a * a + b * b else -1
end Go.Proofs.YtndgiehipajghaaDoor
