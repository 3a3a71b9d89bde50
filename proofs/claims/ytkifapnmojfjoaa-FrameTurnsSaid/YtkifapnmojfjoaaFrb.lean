/-
  A slice of Booleans reads as a list.
-/
import Derived.Test.YtkifapnmojfjoaaLd
namespace Go.Proofs.Ytkifapnmojfjoaa
open Go.RowKit
set_option maxRecDepth 100000
set_option linter.unusedVariables false

/-- The slice at A, of capacity c, reads as the Booleans W. -/
def Rb9 (w : World) (A : Option Addr) (c : Nat) (W : List Bool) : Prop := W.length ≤ c ∧ c ≤ maxLen ∧ ((A = none ∧ c = 0) ∨ ∃ ad : Addr, A = some ad ∧ ∀ i x, W[i]? = some x → w.cell? (ad.add i) = some (.bool x))
theorem Rb9.keep {w w' : World} {A : Option Addr} {c : Nat} {W : List Bool} (h : Rb9 w A c W) (hb : Below w.heap.size w w') : Rb9 w' A c W := by
  refine ⟨h.1, h.2.1, ?_⟩
  rcases h.2.2 with hn | ⟨ad, ha, hc⟩
  · exact .inl hn
  · exact .inr ⟨ad, ha, fun i x hx => (hb.cell (cell_lt (hc i x hx))).trans (hc i x hx)⟩
theorem Rb9.at_ {w : World} {A : Option Addr} {c : Nat} {W : List Bool} (h : Rb9 w A c W) {i : Nat} (hi : i < W.length) : ∃ ad y, A = some ad ∧ w.cell? (ad.add i) = some (.bool y) := by
  rcases h.2.2 with ⟨-, hc⟩ | ⟨ad, ha, hc⟩
  · have := h.1; omega
  · exact ⟨ad, _, ha, hc i _ (List.getElem?_eq_getElem hi)⟩
end Go.Proofs.Ytkifapnmojfjoaa
