/-
  What octet's settle does, as a deferred call: beside an error the two results are cleared, else nothing changes.
-/
import Derived.Test.YthmfjdafmnmgiaaDoorJoin
namespace Go.Proofs.YthmfjdafmnmgiaaDoor
open Go.RowKit

theorem settle_int_ok (a1 a2 a3 : Addr) (u : FrameMode) (w : World) (h3 : w.cell? a3 = some (.int .i64 0)) :
    CallsD Tryd.prog 76 #[.pointer (some a1), .pointer (some a2), .pointer (some a3)] u w fun e u' w' => u' = u ∧ (e = .returned (.tuple #[]) ∧ w = w') := by
  go_enter_d Tryd.func76, Tryd.ntmps76
  go_wp2
  go_end0
  exact ⟨rfl, rfl⟩
theorem settle_int_err (a1 a2 a3 : Addr) (x1 x2 : Value) (e : Int) (u : FrameMode) (w : World) (h1 : w.cell? a1 = some x1) (h2 : w.cell? a2 = some x2) (h3 : w.cell? a3 = some (.int .i64 e)) (f1 : w.frozen? a1 = false) (f2 : w.frozen? a2 = false)
    (h12 : a1 ≠ a2) (he : (e != 0) = true) :
    CallsD Tryd.prog 76 #[.pointer (some a1), .pointer (some a2), .pointer (some a3)] u w fun e u' w' => u' = u ∧ (e = .returned (.tuple #[]) ∧ w' = (w.setCell a1 (.int .i64 0)).setCell a2 (.int .i64 0)) := by
  have h2' : (w.setCell a1 (.int .i64 0)).cell? a2 = some x2 := by rw [World.cell?_setCell_other _ _ _ _ h12]; exact h2
  have f2' : (w.setCell a1 (.int .i64 0)).frozen? a2 = false := by simp [f2]
  go_enter_d Tryd.func76, Tryd.ntmps76
  go_wp2
  go_end0
  exact ⟨rfl, rfl⟩
end Go.Proofs.YthmfjdafmnmgiaaDoor
