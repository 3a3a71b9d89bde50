/-
  The walk of OpParses: for every text it returns true; nothing that was there has changed.
-/
import Derived.Test.YtimjnmkfbdijeaaLf
namespace Go.Proofs.Ytimjnmkfbdijeaa
open Go.RowKit
set_option linter.unusedSimpArgs false
set_option linter.unusedVariables false

/-- A text is the first opcode's name that it is, or none's. -/
theorem prs_cases (s : ByteArray) : (∃ k : Nat, k < 33 ∧ (∀ j : Nat, j < k → ((opS j).toList == s.toList) = false) ∧ ((opS k).toList == s.toList) = true) ∨ ∀ j : Nat, j < 33 → ((opS j).toList == s.toList) = false := by
  have key : ∀ m : Nat, m ≤ 33 → (∃ k : Nat, k < 33 ∧ (∀ j : Nat, j < k → ((opS j).toList == s.toList) = false) ∧ ((opS k).toList == s.toList) = true) ∨ ∀ j : Nat, j < m → ((opS j).toList == s.toList) = false := by
    intro m
    induction m with
    | zero => exact fun _ => .inr fun j hj => by omega
    | succ m ih =>
      intro hm
      rcases ih (by omega) with h | h
      · exact .inl h
      · cases he : ((opS m).toList == s.toList) with
        | true => exact .inl ⟨m, by omega, h, he⟩
        | false =>
          refine .inr fun j hj => ?_
          by_cases hjm : j = m
          · rw [hjm]; exact he
          · exact h j (by omega)
  exact key 33 (Nat.le_refl _)
end Go.Proofs.Ytimjnmkfbdijeaa
