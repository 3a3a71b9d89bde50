/-
  Layer 7: what the reference's Kinds, Migrates, Zeros, Bytes answer.
-/
import Derived.Test.YteimpkjpoijhmaaDoorLk
import Derived.Test.YteimpkjpoijhmaaDoorHv
import Derived.Test.YteimpkjpoijhmaaDoorLb
namespace Go.Proofs.YteimpkjpoijhmaaDoor
open Go.RowKit
set_option maxRecDepth 100000
set_option linter.unusedSimpArgs false
set_option linter.unusedVariables false

theorem ok0_of {l : List Int} (h : Byt l) : ∀ x ∈ l.map (fun k => ((k, 0, 0) : Vlu)), VlOk x := by
  intro x hx
  obtain ⟨k, hk, rfl⟩ := List.mem_map.1 hx
  exact ⟨h k hk, by simp, by simp⟩
end Go.Proofs.YteimpkjpoijhmaaDoor
