/-
  The code of a text, by definition; what the reference's Parse answers.
-/
import Derived.Test.YthmfjdafmnmgiaaCrl
namespace Go.Proofs.Ythmfjdafmnmgiaa
open Go.RowKit
set_option maxRecDepth 100000
set_option linter.unusedSimpArgs false
set_option linter.unusedVariables false

/-- The rest of a text, behind a line's beginning and the instructions of the lines ahead. -/
def psL : List Int → List Int → List Ins → Int × List Ins
  | [], cur, K => if cur = [] ∧ K ≠ [] then (0, K) else (40, [])
  | c :: rest, cur, K => if (c != 10) = true then psL rest (cur ++ [c]) K else if (lnP cur).2 = true ∧ K.length < 200 then psL rest [] (K ++ [(lnP cur).1]) else (40, [])
def psC (S : List Int) : Int × List Ins := psL S [] []
theorem psL_end (cur : List Int) (K : List Ins) : psL [] cur K = if cur = [] ∧ K ≠ [] then (0, K) else (40, []) := by rw [psL]
theorem psL_in {S : List Int} {j : Nat} (h : j < S.length) (hc : (S[j] != 10) = true) (cur : List Int) (K : List Ins) : psL (S.drop j) cur K = psL (S.drop (j + 1)) (cur ++ [S[j]]) K := by
  rw [List.drop_eq_getElem_cons h, psL, if_pos hc]
theorem psL_line {S : List Int} {j : Nat} (h : j < S.length) (hc : (S[j] != 10) = false) (cur : List Int) (K : List Ins) : psL (S.drop j) cur K = if (lnP cur).2 = true ∧ K.length < 200 then psL (S.drop (j + 1)) [] (K ++ [(lnP cur).1]) else (40, []) := by
  rw [List.drop_eq_getElem_cons h, psL, if_neg (by rw [hc]; decide)]
theorem opP_bd (T : List Int) : 0 ≤ (opP T).1 ∧ (opP T).1 < 33 := by
  unfold opP
  split
  · rename_i j hj
    have := (List.find?_range_eq_some.1 hj).2.1
    simp at this
    exact ⟨by simp only; omega, by simp only; omega⟩
  · exact ⟨by decide, by decide⟩
theorem numT_bd (S : List Int) : -1 ≤ numT S ∧ numT S ≤ 9999 := by
  unfold numT
  split
  · decide
  · split
    · decide
    · rename_i h1 h2
      split
      · have := vlT_bd S (by simpa using h2) (by omega)
        omega
      · decide
theorem lnP_ok (S : List Int) : InOk (lnP S).1 := by
  have h1 := opP_bd (S.take (spK S))
  have h2 := numT_bd (S.drop (spK S + 1))
  unfold lnP
  split
  · unfold InOk; simp only; omega
  · split
    · unfold InOk; simp only; omega
    · split
      · unfold InOk; simp only; omega
      · unfold InOk; simp only; omega
theorem cur_more {S : List Int} {q j : Nat} (hq : q ≤ j) (h : j < S.length) : (S.drop q).take (j - q) ++ [S[j]] = (S.drop q).take (j + 1 - q) := by
  rw [show j + 1 - q = (j - q) + 1 by omega, List.take_add_one, List.getElem?_drop, show q + (j - q) = j by omega, List.getElem?_eq_getElem h]
  rfl

end Go.Proofs.Ythmfjdafmnmgiaa
