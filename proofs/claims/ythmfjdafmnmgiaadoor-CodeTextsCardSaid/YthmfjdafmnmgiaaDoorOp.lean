/-
  Layer 4, package op: what its plain functions answer (Known, Leads, Goes, Bounds), each a contract for every opcode; the reference's too.
-/
import Derived.Test.YthmfjdafmnmgiaaDoorSt
namespace Go.Proofs.YthmfjdafmnmgiaaDoor
open Go.RowKit
set_option linter.unusedSimpArgs false
set_option linter.unusedVariables false

/-- Whether it is an opcode; whether its operand leads elsewhere; whether it goes on; the least and the greatest operand. -/
def opK (n : Int) : Bool := decide (n < 33)
def opL (n : Int) : Bool := n == 26 || n == 27 || n == 29
def opG (n : Int) : Bool := opK n && n != 26 && n != 31 && n != 32
def opLo (n : Int) : Int := if n = 28 then 1 else 0
def opHi (n : Int) : Int :=
  if n = 1 then 31 else if n = 2 ∨ n = 3 ∨ n = 30 then 15 else if n = 4 ∨ n = 5 then 3 else if n = 22 then 1024 else if n = 26 ∨ n = 27 ∨ n = 29 then 199 else if n = 28 then 100 else if n = 32 then 255 else if n < 33 then 0 else -1
/-- Whether an instruction may be. -/
def opM (n a b : Int) : Bool := decide (opLo n ≤ a) && decide (a ≤ opHi n) && b == 0
theorem known_any (n : Int) (w : World) : Calls Tryd.prog 57 #[.int .u8 n] w fun e w' => e = .returned (.bool (opK n)) ∧ w = w' := by
  go_enter Tryd.func57, Tryd.ntmps57
  go_wp2_with fail
  go_ret
  exact ⟨rfl, rfl⟩
set_option maxHeartbeats 2000000 in
theorem bounds_any (n : Int) (w : World) : Calls Tryd.prog 43 #[.int .u8 n] w fun e w' => e = .returned (.tuple #[.int .i64 (opLo n), .int .i64 (opHi n)]) ∧ w = w' := by
  go_enter Tryd.func43, Tryd.ntmps43
  go_wp2_with (first | (go_at_call 57; refine (known_any _ _).mono ?_; rintro e w1 ⟨rfl, rfl⟩; cases hk : opK n) | fail)
  all_goals (try go_wp2_with fail)
  all_goals go_ret2
  all_goals (refine ⟨?_, rfl⟩; simp_all [opLo, opHi, opK, go_sem])
theorem r4known_any (n : Int) (w : World) : Calls Tryd.prog 55 #[.int .u8 n] w fun e w' => e = .returned (.bool (opK n)) ∧ w = w' := by
  go_enter Tryd.func55, Tryd.ntmps55
  go_wp2_with fail
  go_ret
  exact ⟨rfl, rfl⟩
set_option maxHeartbeats 2000000 in
theorem r4bounds_any (n : Int) (w : World) : Calls Tryd.prog 39 #[.int .u8 n] w fun e w' => e = .returned (.tuple #[.int .i64 (opLo n), .int .i64 (opHi n)]) ∧ w = w' := by
  go_enter Tryd.func39, Tryd.ntmps39
  go_wp2_with (first | (go_at_call 55; refine (r4known_any _ _).mono ?_; rintro e w1 ⟨rfl, rfl⟩; cases hk : opK n) | fail)
  all_goals (try go_wp2_with fail)
  all_goals go_ret2
  all_goals (refine ⟨?_, rfl⟩; simp_all [opLo, opHi, opK, go_sem])
end Go.Proofs.YthmfjdafmnmgiaaDoor
