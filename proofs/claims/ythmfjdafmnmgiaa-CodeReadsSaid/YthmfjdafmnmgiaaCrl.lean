/-
  A line, by definition; what the reference's line answers.
-/
import Derived.Test.YthmfjdafmnmgiaaCrn
import Derived.Test.YthmfjdafmnmgiaaOparses
namespace Go.Proofs.Ythmfjdafmnmgiaa
open Go.RowKit
set_option maxRecDepth 100000
set_option linter.unusedSimpArgs false
set_option linter.unusedVariables false

/-- The opcode of a name, and whether there is one. -/
def opP (T : List Int) : Int × Bool := match (List.range 33).find? (fun j => nmI (j : Nat) == T) with
  | some j => (j, true)
  | none => (0, false)
/-- How far a line's first word goes. -/
def spK (S : List Int) : Nat := (S.takeWhile fun c => c != 32).length
/-- A line's instruction, and whether it is one. -/
def lnP (S : List Int) : Ins × Bool :=
  if (opP (S.take (spK S))).2 = false then (((opP (S.take (spK S))).1, 0, 0), false) else
  if wdB (opP (S.take (spK S))).1 = false then (((opP (S.take (spK S))).1, 0, 0), decide (spK S = S.length)) else
  if spK S = S.length then (((opP (S.take (spK S))).1, 0, 0), false) else
  (((opP (S.take (spK S))).1, numT (S.drop (spK S + 1)), 0), opM (opP (S.take (spK S))).1 (numT (S.drop (spK S + 1))) 0)
theorem spK_le (S : List Int) : spK S ≤ S.length := by
  unfold spK
  exact (List.takeWhile_prefix _).length_le
theorem spK_lt {S : List Int} {j : Nat} (h : j < spK S) (h2 : j < S.length) : (S[j] != 32) = true := by
  induction S generalizing j with
  | nil => simp at h2
  | cons c S ih =>
    unfold spK at h ih
    rw [List.takeWhile_cons] at h
    split at h
    · rename_i hc
      cases j with
      | zero => exact hc
      | succ j => exact ih (by simpa using h) (by simpa using h2)
    · simp at h
theorem spK_at {S : List Int} (h2 : spK S < S.length) : (S[spK S] != 32) = false := by
  induction S with
  | nil => simp at h2
  | cons c S ih =>
    cases hc : (c != 32) with
    | true =>
      have e : spK (c :: S) = spK S + 1 := by unfold spK; rw [List.takeWhile_cons, if_pos hc]; rfl
      simp only [e, List.getElem_cons_succ]
      exact ih (by rw [e] at h2; simpa using h2)
    | false =>
      have e : spK (c :: S) = 0 := by unfold spK; rw [List.takeWhile_cons, if_neg (by rw [hc]; decide)]; rfl
      simp only [e, List.getElem_cons_zero]
      exact hc
theorem opS_flag (j : Nat) {T : List Int} (hT : Byt T) : ((opS j).toList == (strOfNums T).toList) = decide (nmI j = T) := by
  rw [← nmI_str, str_eqb (nmI_byt _) hT]
theorem str_part (S : List Int) (a b : Nat) : (strOfNums S).extract a b = strOfNums ((S.drop a).take (b - a)) := by
  apply ByteArray.ext
  apply Array.ext'
  simp [strOfNums, List.extract_eq_take_drop, List.map_take, List.map_drop]
theorem below_set3 {w w1 : World} {b B : Nat} (h : Below b w w1) (hB : b ≤ B) (x y z : Value) : Below b w (((w1.setCell ⟨B, 0, none⟩ x).setCell ⟨B, 1, none⟩ y).setCell ⟨B, 2, none⟩ z) := ((h.setCell hB _).setCell hB _).setCell hB _
theorem In.other {w : World} {B : Nat} {k a b : Int} (h : In w B k a b) {p : Addr} (hp : p.block ≠ B) (v : Value) : In (w.setCell p v) B k a b := by
  obtain ⟨h1, h2, h3, h4, h5, h6, h7⟩ := h
  have ne : ∀ i, p ≠ (⟨B, i, none⟩ : Addr) := fun i e => hp (by rw [e])
  refine ⟨by simpa using h1, ?_, ?_, ?_, ?_, ?_, ?_⟩
  · rw [World.cell?_setCell_other _ _ _ _ (ne 0)]; exact h2
  · rw [World.cell?_setCell_other _ _ _ _ (ne 1)]; exact h3
  · rw [World.cell?_setCell_other _ _ _ _ (ne 2)]; exact h4
  · simpa using h5
  · simpa using h6
  · simpa using h7
/-- Some instruction lies at block B. -/
abbrev fE (B : Nat) : Fct := ⟨fun w => ∃ x y z, In w B x y z, fun _ _ h hb => by obtain ⟨x, y, z, h⟩ := h; exact ⟨x, y, z, h.keep hb⟩⟩
theorem In.set012 {w : World} {B : Nat} {k a b : Int} (h : In w B k a b) (k' a' b' : Int) : In (((w.setCell ⟨B, 0, none⟩ (.int .u8 k')).setCell ⟨B, 1, none⟩ (.int .i64 a')).setCell ⟨B, 2, none⟩ (.int .i64 b')) B k' a' b' := by
  obtain ⟨h1, h2, h3, h4, h5, h6, h7⟩ := h
  refine ⟨by simpa using h1, ?_, ?_, ?_, ?_, ?_, ?_⟩ <;> simp [go_sem, h2, h3, h4, h5, h6, h7]
theorem Sx.put {w w' : World} {o a : Int} (h : Sx w w' [fI (w.heap.size + 1) o a 0, fE w.heap.size]) (k' a' b' : Int) :
    Sx w (((w'.setCell ⟨w.heap.size, 0, none⟩ (.int .u8 k')).setCell ⟨w.heap.size, 1, none⟩ (.int .i64 a')).setCell ⟨w.heap.size, 2, none⟩ (.int .i64 b')) [fI (w.heap.size + 1) o a 0, fE w.heap.size] := by
  obtain ⟨h1, h2, ⟨x, y, z, h3⟩, _⟩ := h
  exact ⟨below_set3 h1 (Nat.le_refl _) _ _ _, ((h2.other (by simp) _).other (by simp) _).other (by simp) _, ⟨k', a', b', h3.set012 _ _ _⟩, trivial⟩
end Go.Proofs.Ythmfjdafmnmgiaa
