/-
  Ed, Ee, Ef: in one text.
-/
import Derived.Test.YtmgppdjbmhjmbaaLea
import Derived.Test.YtmgppdjbmhjmbaaLu
import Derived.Test.YtmgppdjbmhjmbaaTi
import Derived.Test.YtmgppdjbmhjmbaaLk
import Derived.Test.YtmgppdjbmhjmbaaNi
import Derived.Test.YtmgppdjbmhjmbaaLm
namespace Go.Proofs.Ytmgppdjbmhjmbaa
open Go.RowKit
set_option maxRecDepth 100000
set_option linter.unusedSimpArgs false
set_option linter.unusedVariables false

end Go.Proofs.Ytmgppdjbmhjmbaa
namespace Go.Proofs.Ytmgppdjbmhjmbaa
open Go.RowKit
set_option maxRecDepth 100000
set_option linter.unusedSimpArgs false
set_option linter.unusedVariables false

/-- What tells numbers and an error. -/
def Ns11 (w w' : World) (T : List Int × Int) (e : Ending) : Prop := ∃ A' c', e = .returned (.tuple #[.slice A' T.1.length c', .int .i64 T.2]) ∧ w'.ownsRow w.heap.size 3 1 (.slice A' T.1.length c') T.1.length (ci9 T.1) ∧ Below w.heap.size w w'
theorem Ns11.err {w w' : World} {T : List Int × Int} {e : Int} (hT : T = ([], e)) (hb : Below w.heap.size w w') : Ns11 w w' T (.returned (.tuple #[.slice none 0 0, .int .i64 e])) := by
  subst hT
  exact ⟨none, 0, rfl, World.ownsRow_nil _ _ _ _, hb⟩
theorem fil_succ11 (f : Nat → Bool) (j : Nat) : ns11 ((List.range (j + 1)).filter f) = ns11 ((List.range j).filter f) ++ (if f j then [(j : Int)] else []) := by
  rw [List.range_succ, List.filter_append, ns11, List.map_append]
  cases h : f j <;> simp [h]
theorem fil_len11 (f : Nat → Bool) (j : Nat) : (ns11 ((List.range j).filter f)).length ≤ j := by
  rw [List.length_map]
  have := List.length_filter_le f (List.range j)
  rw [List.length_range] at this
  exact this
end Go.Proofs.Ytmgppdjbmhjmbaa
namespace Go.Proofs.Ytmgppdjbmhjmbaa
open Go.RowKit
set_option maxRecDepth 100000
set_option linter.unusedSimpArgs false
set_option linter.unusedVariables false

def slen11 : Value → Nat
  | .slice _ n _ => n
  | _ => 0
theorem nx11_of {e : Nat → Nat → Bool} {n : Nat} {o : List Nat} {k : Nat} (h1 : ∀ i, i < k → rd11 e n o i = false) (h2 : rd11 e n o k = true) (hk : k < n) : nx11 e n o = some k := by
  unfold nx11
  rw [List.find?_range_eq_some]
  exact ⟨h2, List.mem_range.2 hk, fun i hi => by rw [h1 i hi]; rfl⟩
theorem nx11_no {e : Nat → Nat → Bool} {n : Nat} {o : List Nat} (h1 : ∀ i, i < n → rd11 e n o i = false) : nx11 e n o = none := by
  unfold nx11
  rw [List.find?_eq_none]
  intro i hi
  rw [h1 i (List.mem_range.1 hi)]
  decide
end Go.Proofs.Ytmgppdjbmhjmbaa
