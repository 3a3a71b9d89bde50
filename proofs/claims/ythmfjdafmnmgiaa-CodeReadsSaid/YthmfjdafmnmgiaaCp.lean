/-
  Layer 5, package code: what its small functions, May and Same answer, for every argument.
-/
import Derived.Test.YthmfjdafmnmgiaaCk
namespace Go.Proofs.Ythmfjdafmnmgiaa
open Go.RowKit
set_option maxRecDepth 100000
set_option linter.unusedSimpArgs false
set_option linter.unusedVariables false

/-- Whether code may have n instructions. -/
def mcB (n : Int) : Bool := decide (1 ≤ n) && decide (n ≤ 200)
theorem mayc_v (n : Int) (v : Bool) (w : World) (h : mcB n = v) : Calls Try.prog 13 #[.int .i64 n] w fun e w' => e = .returned (.bool v) ∧ w = w' := by
  subst h
  go_enter Try.func13, Try.ntmps13
  by_cases h1 : 1 ≤ n
  · by_cases h2 : n ≤ 200
    · go_wp2_with fail
      go_ret
      exact ⟨by simp [mcB, h1, h2], rfl⟩
    · go_wp2_with fail
      go_ret
      exact ⟨by simp [mcB, h1, h2], rfl⟩
  · go_wp2_with fail
    go_ret
    exact ⟨by simp [mcB]; omega, rfl⟩
theorem hasop_v (n : Int) (v : Bool) (w : World) (h : wdB n = v) : Calls Try.prog 17 #[.int .u8 n] w fun e w' => e = .returned (.bool v) ∧ w = w' := by
  subst h
  have hB := Lib.hid (bounds_any n w)
  rw [wdB]
  generalize opLo n = p at *
  generalize opHi n = q at *
  go_enter Try.func17, Try.ntmps17
  go_wp2_with fail
  refine hB.out.mono ?_
  rintro e w1 ⟨rfl, rfl⟩
  go_wp2_with fail
  go_ret
  exact ⟨rfl, rfl⟩
theorem codM_len {L : List Ins} (h : mcB L.length = false) : codM L = false := by
  unfold mcB at h
  unfold codM
  cases h1 : decide (1 ≤ L.length) with
  | false => rfl
  | true =>
    have e1 : (1 : Int) ≤ L.length := by have := of_decide_eq_true h1; omega
    rw [decide_eq_true e1, Bool.true_and] at h
    have e2 : ¬ L.length ≤ 200 := by have := of_decide_eq_false h; omega
    rw [decide_eq_false e2]
    rfl
theorem codM_all {L : List Ins} (h : mcB L.length = true) : codM L = L.all inM := by
  unfold mcB at h
  rw [Bool.and_eq_true, decide_eq_true_eq, decide_eq_true_eq] at h
  unfold codM
  rw [decide_eq_true (show 1 ≤ L.length by omega), decide_eq_true (show L.length ≤ 200 by omega)]
  rfl
end Go.Proofs.Ythmfjdafmnmgiaa
