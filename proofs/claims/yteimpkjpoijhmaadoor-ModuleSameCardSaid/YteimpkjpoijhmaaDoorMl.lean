/-
  Modules' bytes on lists: plain facts.
-/
import Derived.Test.YteimpkjpoijhmaaDoorMm
import Derived.Test.YteimpkjpoijhmaaDoorLg
namespace Go.Proofs.YteimpkjpoijhmaaDoor
open Go.RowKit
set_option maxRecDepth 100000
set_option linter.unusedSimpArgs false
set_option linter.unusedVariables false

theorem mL_byt (m : Mh) : Byt (mL m) := by
  by_cases h : mM m = true
  · have hm := mM_iff.1 h
    have hq : 0 ≤ fl m.q ∧ fl m.q < 256 := by cases m.q <;> decide
    rw [mL, if_pos h]
    intro z hz
    simp only [List.mem_append, List.mem_cons, List.not_mem_nil, or_false] at hz
    rcases hz with (rfl | hz) | (rfl | hz) | (rfl | rfl) | hz | hz | hz
    · omega
    · have := kO_at hm.2.2.1 hz; omega
    · omega
    · have := kO_at hm.2.2.2.1 hz; omega
    · omega
    · exact hq
    · exact byt_digs _ _ z hz
    · exact byt_digs _ _ z hz
    · exact byt_digs _ _ z hz
  · rw [mL, if_neg h]
    intro z hz
    cases hz
theorem mL_le {m : Mh} (h : mM m = true) : (mL m).length ≤ 27 := by
  have hm := mM_iff.1 h
  rw [mL, if_pos h]
  simp [length_digs]
  omega
theorem oB_byt {x : Ins} (h : inM x = true) (h0 : InOk x) : Byt (opr x) := by
  obtain ⟨h1, h2, h3⟩ := inM_parts h
  have hw := opLo_nonneg x.1
  have hb := h0.1
  have hh : opHi x.1 ≤ 1024 := by unfold opHi; split <;> omega
  intro y hy
  rw [opr] at hy
  rcases List.mem_cons.1 hy with rfl | hy
  · exact hb
  · split at hy
    · simp at hy
      rcases hy with rfl | rfl <;> omega
    · cases hy
theorem cB_byt {L : List Ins} (h : codM L = true) (h0 : ∀ x ∈ L, InOk x) : Byt (codB L) := by
  obtain ⟨h1, h2, h3⟩ := codM_parts h
  intro y hy
  rw [codB] at hy
  rcases List.mem_cons.1 hy with rfl | hy
  · omega
  · obtain ⟨x, hx, hy⟩ := List.mem_flatMap.1 hy
    exact oB_byt (h3 x hx) (h0 x hx) y hy
theorem oB_len (x : Ins) : 1 ≤ (opr x).length ∧ (opr x).length ≤ 3 := by
  rw [opr]
  split <;> simp
theorem oBs_len (L : List Ins) : L.length ≤ (L.flatMap opr).length ∧ (L.flatMap opr).length ≤ 3 * L.length := by
  induction L with
  | nil => simp
  | cons x L ih =>
    have := oB_len x
    rw [List.flatMap_cons, List.length_append, List.length_cons]
    omega
theorem cB_le {L : List Ins} (h : codM L = true) : (codB L).length ≤ 601 := by
  have h1 := oBs_len L
  have h2 := codM_parts h
  rw [codB, List.length_cons]
  omega
theorem cB_pos (L : List Ins) : 0 < (codB L).length := by rw [codB, List.length_cons]; omega
theorem mL_pos {m : Mh} (h : mM m = true) : 0 < (mL m).length := by
  rw [mL, if_pos h]
  simp
theorem qmE_at {s : List (Mh × List Ins)} {j : Nat} (h : j < s.length) : qmE (s.drop j) = if mM (s[j]).1 = true then (if codM (s[j]).2 = true then qmE (s.drop (j + 1)) else 40) else 70 := by
  rw [List.drop_eq_getElem_cons h, qmE]
theorem qmB_snoc {s : List (Mh × List Ins)} {j : Nat} (h : j < s.length) : qmB (s.take (j + 1)) = qmB (s.take j) ++ (mL (s[j]).1 ++ codB (s[j]).2) := by
  rw [List.take_add_one, List.getElem?_eq_getElem h, qmB, List.flatMap_append]
  simp [qmB]
end Go.Proofs.YteimpkjpoijhmaaDoor
