/-
  append of integers to a row of the call's own (as in Fi, without flow).
-/
import Derived.Test.YtmgppdjbmhjmbaaGreatLu
import Derived.Test.YtmgppdjbmhjmbaaGreatLk
import Derived.ArgAppend
namespace Go.Proofs.YtmgppdjbmhjmbaaGreat
open Go.RowKit
set_option maxRecDepth 100000
set_option linter.unusedVariables false

theorem ci9_oneN (L : List Int) : ∀ u ∈ ci9 L, u.oneCell' = true := by
  intro u hu
  simp only [ci9, List.mem_map] at hu
  obtain ⟨x, -, rfl⟩ := hu
  rfl
end Go.Proofs.YtmgppdjbmhjmbaaGreat
