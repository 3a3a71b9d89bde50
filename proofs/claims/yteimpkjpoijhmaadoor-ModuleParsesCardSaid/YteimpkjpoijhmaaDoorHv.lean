/-
  Layer 7, package method: what Migrates and Zeros answer.
-/
import Derived.Test.YteimpkjpoijhmaaDoorLp
import Derived.Test.YteimpkjpoijhmaaDoorPv
import Derived.Test.YteimpkjpoijhmaaDoorLd
import Derived.OwnWalk
import Derived.Laws.OwnMore
namespace Go.Proofs.YteimpkjpoijhmaaDoor
open Go.RowKit
set_option maxRecDepth 100000
set_option linter.unusedSimpArgs false
set_option linter.unusedVariables false

theorem cev_put7 {xs : List Value} {K : List Vlu} {j : Nat} (hj : K.length = j) (hx : xs.take (j * 3) = cev K) (hl : j * 3 + 3 ≤ xs.length) (y : Vlu) :
    (((xs.set (j * 3) (.int .u8 y.1)).set (j * 3 + 1) (.int .i64 y.2.1)).set (j * 3 + 2) (.int .i64 y.2.2)).take ((j + 1) * 3) = cev (K ++ [y]) := by
  have h3 : (cev K).length = j * 3 := by rw [length_cev, hj]
  have hd : xs = cev K ++ xs.drop (j * 3) := by rw [← hx, List.take_append_drop]
  have hdl : 3 ≤ (xs.drop (j * 3)).length := by rw [List.length_drop]; omega
  match hr : xs.drop (j * 3), hdl with
  | u :: v :: t :: r, _ =>
    rw [hr] at hd
    rw [hd, List.set_append_right _ _ (by omega), h3, Nat.sub_self, List.set_cons_zero, List.set_append_right _ _ (by omega), h3, show j * 3 + 1 - j * 3 = 0 + 1 by omega, List.set_cons_succ, List.set_cons_zero,
      List.set_append_right _ _ (by omega), h3, show j * 3 + 2 - j * 3 = 0 + 1 + 1 by omega, List.set_cons_succ, List.set_cons_succ, List.set_cons_zero, List.take_append, h3, List.take_of_length_le (by omega),
      show (j + 1) * 3 - j * 3 = 3 by omega, cev_append, cev_cons]
    rfl
theorem mZ_t {m : Mh} (h : mM m = true) : mZ m = m.l.map fun k => (k, 0, 0) := by rw [mZ, if_pos h]
theorem mZ_f {m : Mh} (h : mM m = false) : mZ m = [] := by rw [mZ, if_neg (by rw [h]; decide)]
end Go.Proofs.YteimpkjpoijhmaaDoor
