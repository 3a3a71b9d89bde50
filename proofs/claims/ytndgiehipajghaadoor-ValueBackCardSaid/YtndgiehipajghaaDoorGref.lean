/-
  What the document's own answers for layer 2 (capstanref02) are: a contract for every argument.
-/
import Derived.Test.YtndgiehipajghaaDoorComb
namespace Go.Proofs.YtndgiehipajghaaDoor
open Go.RowKit

theorem rmay_t (a b : Int) (w : World) (h : okB a b = true) : Calls Tryd.prog 13 #[.int .i64 a, .int .i64 b] w fun e w' => e = .returned (.bool true) ∧ w = w' := by
  obtain ⟨⟨h1, h2⟩, h3, h4⟩ := okB_iff.1 h
  clear h
  go_enter Tryd.func13, Tryd.ntmps13
  go_wp2_with fail
  go_ret
  exact ⟨rfl, rfl⟩
theorem rmay_f (a b : Int) (w : World) (h : okB a b = false) : Calls Tryd.prog 13 #[.int .i64 a, .int .i64 b] w fun e w' => e = .returned (.bool false) ∧ w = w' := by
  have hn : ¬ ((-1048576 ≤ a ∧ a ≤ 1048576) ∧ -1048576 ≤ b ∧ b ≤ 1048576) := fun hh => by rw [okB_iff.2 hh] at h; cases h
  clear h
  by_cases h1 : -1048576 ≤ a
  · by_cases h2 : a ≤ 1048576
    · by_cases h3 : -1048576 ≤ b
      · have h4 : decide (b ≤ 1048576) = false := by simp; omega
        clear hn
        go_enter Tryd.func13, Tryd.ntmps13
        go_wp2_with fail
        go_ret
        exact ⟨rfl, rfl⟩
      · have h4 : decide (-1048576 ≤ b) = false := by simp; omega
        clear hn
        go_enter Tryd.func13, Tryd.ntmps13
        go_wp2_with fail
        go_ret
        exact ⟨rfl, rfl⟩
    · have h4 : decide (a ≤ 1048576) = false := by simp; omega
      clear hn
      go_enter Tryd.func13, Tryd.ntmps13
      go_wp2_with fail
      go_ret
      exact ⟨rfl, rfl⟩
  · have h4 : decide (-1048576 ≤ a) = false := by simp; omega
    clear hn
    go_enter Tryd.func13, Tryd.ntmps13
    go_wp2_with fail
    go_ret
    exact ⟨rfl, rfl⟩
theorem rmay_v (a b : Int) (v : Bool) (w : World) (h : okB a b = v) : Calls Tryd.prog 13 #[.int .i64 a, .int .i64 b] w fun e w' => e = .returned (.bool v) ∧ w = w' := by
  cases v with
  | true => exact rmay_t a b w h
  | false => exact rmay_f a b w h
end Go.Proofs.YtndgiehipajghaaDoor
