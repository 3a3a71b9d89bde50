/-
  The walk of OpParses: for every text it returns true; nothing that was there has changed.
-/
import Derived.Test.YtdkhpjdhbkkfiaaDoorOpn
namespace Go.Proofs.YtdkhpjdhbkkfiaaDoor
open Go.RowKit
set_option linter.unusedSimpArgs false
set_option linter.unusedVariables false

/-- A text is the first opcode's name that it is, or none's. -/
theorem prs_cases (s : ByteArray) : (∃ k : Nat, k < 33 ∧ (∀ j : Nat, j < k → ((opS j).toList == s.toList) = false) ∧ ((opS k).toList == s.toList) = true) ∨ ∀ j : Nat, j < 33 → ((opS j).toList == s.toList) = false := by
  have key : ∀ m : Nat, m ≤ 33 → (∃ k : Nat, k < 33 ∧ (∀ j : Nat, j < k → ((opS j).toList == s.toList) = false) ∧ ((opS k).toList == s.toList) = true) ∨ ∀ j : Nat, j < m → ((opS j).toList == s.toList) = false := by
    intro m
    induction m with
    | zero => exact fun _ => .inr fun j hj => by omega
    | succ m ih =>
      intro hm
      rcases ih (by omega) with h | h
      · exact .inl h
      · cases he : ((opS m).toList == s.toList) with
        | true => exact .inl ⟨m, by omega, h, he⟩
        | false =>
          refine .inr fun j hj => ?_
          by_cases hjm : j = m
          · rw [hjm]; exact he
          · exact h j (by omega)
  exact key 33 (Nat.le_refl _)
theorem parses_walk (s : ByteArray) (w : World) (hs : s.size ≤ maxLen) (hw : GN w) : Calls Tryd.prog 4 #[.string s] w fun e w' => e = .returned (.bool true) ∧ Below w.heap.size w w' := by
  have hs' : s.size ≤ 9223372036854775807 := hs
  rcases prs_cases s with ⟨k, hk, hne, he⟩ | hne
  · have P1 := Lib.hid (prs_t s w hw k hk hne he)
    have P2 := Lib.hid (r4prs_t s w k hk hne he)
    clear hne he
    go_enter Tryd.func4, Tryd.ntmps4
    go_wp2_with fail
    · go_ret
      exact ⟨rfl, Below.refl _ _⟩
    · refine P1.out.mono ?_
      rintro e w1 ⟨rfl, rfl⟩
      go_wp2_with fail
      refine P2.out.mono ?_
      rintro e w1 ⟨rfl, rfl⟩
      go_wp2_with fail
      go_ret
      exact ⟨rfl, Below.refl _ _⟩
  · have P1 := Lib.hid (prs_f s w hw hne)
    have P2 := Lib.hid (r4prs_f s w hne)
    clear hne
    go_enter Tryd.func4, Tryd.ntmps4
    go_wp2_with fail
    · go_ret
      exact ⟨rfl, Below.refl _ _⟩
    · refine P1.out.mono ?_
      rintro e w1 ⟨rfl, rfl⟩
      go_wp2_with fail
      refine P2.out.mono ?_
      rintro e w1 ⟨rfl, rfl⟩
      go_wp2_with fail
      go_ret
      exact ⟨rfl, Below.refl _ _⟩
end Go.Proofs.YtdkhpjdhbkkfiaaDoor
