/-
  A method that came in as an argument, by value, reads as a head.
-/
import Derived.Test.YtmgppdjbmhjmbaaLk
import Derived.ProofKit
import Derived.OpenShut
import Derived.ChangeSame
import Derived.ChangeSlices
import Derived.ChangeArms
import Derived.Deep.Slices
import Derived.Deep.Fields
namespace Go.Proofs.Ytmgppdjbmhjmbaa
open Go.ChangeShapes Go.WideShapes Go.ChangeAt Go.RowKit Go.Deep
set_option maxRecDepth 100000
set_option linter.unusedSimpArgs false
set_option linter.unusedVariables false

theorem metF : ((Try.prog.fieldsOf 27).map fun f => (f.offset, f.type)) = #[(0, 24), (1, 24), (2, 5), (3, 4), (4, 3), (5, 3), (6, 3), (7, 25)] := by kernel_rfl
theorem metF_at {j : Nat} {o t : Nat} (h : (#[(0, 24), (1, 24), (2, 5), (3, 4), (4, 3), (5, 3), (6, 3), (7, 25)] : Array (Nat × TypeId))[j]? = some (o, t)) : ∃ f, (Try.prog.fieldsOf 27)[j]? = some f ∧ f.offset = o ∧ f.type = t := by
  rw [← metF, Array.getElem?_map, Option.map_eq_some_iff] at h
  obtain ⟨f, h1, h2⟩ := h
  simp only [Prod.mk.injEq] at h2
  exact ⟨f, h1, h2.1, h2.2⟩
section
variable {H : Type} {enc : TypeId × Value → H} {w : World} {base : Nat} {sp : Nat → Bool} {held : Bool} {fuel : Nat}
/-- One cell that reads as a slice of bytes. -/
theorem one_u8s {v : Value} {x : DataW H × List MemPlace} (h : DataW.trod enc Try.prog w base sp held fuel 24 [v] = some x) : ∃ (A : Option Addr) (c : Nat) (l : List Int), v = .slice A l.length c ∧ Rd w A c l := by
  rcases open_ints Try.underlying24 Try.underlying5 (by kernel_rfl) h with ⟨h0, _⟩ | ⟨a, len, cap, zs, h0, _, hl, hm, hz, _, hc, hw⟩
  · simp at h0
    exact ⟨none, 0, [], h0, Rd.none_ _⟩
  · simp at h0
    have hle : len ≤ zs.length := by rw [hz]; split <;> omega
    have hlen : (zs.take len).length = len := by simp; omega
    refine ⟨some a, cap, zs.take len, by rw [hlen]; exact h0, ?_, by rw [hlen]; exact hl, hm, .inr ⟨a, rfl, fun i y hy => ?_⟩⟩
    · intro n hn
      have := bounds_u8 (hw n (List.mem_of_mem_take hn))
      omega
    · rw [List.getElem?_take] at hy
      split at hy
      · have hlt := (List.getElem?_eq_some_iff.1 hy).1
        rw [hc i hlt, List.getD_eq_getElem?_getD, hy]
        rfl
      · cases hy
end
end Go.Proofs.Ytmgppdjbmhjmbaa
