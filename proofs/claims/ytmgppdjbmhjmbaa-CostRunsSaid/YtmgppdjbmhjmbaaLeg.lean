/-
  Eu, Ev, Ew: in one text.
-/
import Derived.Test.YtmgppdjbmhjmbaaLei
namespace Go.Proofs.Ytmgppdjbmhjmbaa
open Go.RowKit Go.Maps
set_option maxRecDepth 100000
set_option linter.unusedSimpArgs false
set_option linter.unusedVariables false

theorem madeN11 (n : Nat) (hn : n ≤ 1000) (w : World) : (Instr.makeSlice 55 (.int .i64 (n : Int)) (.int .i64 (n : Int))).run Try.prog w = .ok (.slice (some ⟨w.heap.size, 0, none⟩) n n) (w.alloc (.cells (List.replicate n (.int .i64 0)).toArray 3)) := by
  have hinfo := Try.infoN
  rw [Option.map_eq_some_iff] at hinfo
  obtain ⟨i, hi, hz⟩ := hinfo
  simp only [Prod.mk.injEq] at hz
  obtain ⟨hz0, hz1, hz2⟩ := hz
  have hr := run_make (P := Try.prog) w 55 3 i (.int .i64 0) Try.underlying55 hi hz0 .i64 .i64 n n (by omega) (Int.le_refl _) (by rw [hz2]; omega) (by omega)
  rw [hr, hz1, Int.toNat_natCast, Nat.mul_one]
  have e : madeCells #[Value.int .i64 0] n = (List.replicate n (Value.int .i64 0)).toArray := by
    rw [← toList_madeCells_one, Array.toArray_toList]
  rw [← e]
  rfl
/-- A row of n numbers, by a function. -/
def rw11 (n : Nat) (f : Nat → Int) : List Int := (List.range n).map f
theorem rw11_len (n : Nat) (f : Nat → Int) : (rw11 n f).length = n := by simp [rw11]
theorem rw11_at {n t : Nat} {f : Nat → Int} (ht : t < n) : (ci9 (rw11 n f))[t]? = some (.int .i64 (f t)) := by
  rw [ci9, List.getElem?_map, rw11, List.getElem?_map, List.getElem?_range ht]
  rfl
theorem rw11_set {n k : Nat} {f f' : Nat → Int} {v : Int} (hv : f' k = v) (hf : ∀ t, t ≠ k → f' t = f t) : (ci9 (rw11 n f)).set k (.int .i64 v) = ci9 (rw11 n f') := by
  apply List.ext_getElem?
  intro j
  by_cases hj : j = k
  · subst hj
    by_cases hjn : j < n
    · rw [List.getElem?_set_self (by rw [ci9, List.length_map, rw11_len]; exact hjn), rw11_at hjn, hv]
    · rw [List.getElem?_eq_none (by rw [List.length_set, ci9, List.length_map, rw11_len]; omega), List.getElem?_eq_none (by rw [ci9, List.length_map, rw11_len]; omega)]
  · rw [List.getElem?_set_ne (fun e => hj e.symm)]
    by_cases hjn : j < n
    · rw [rw11_at hjn, rw11_at hjn, hf j hj]
    · rw [List.getElem?_eq_none (by rw [ci9, List.length_map, rw11_len]; omega), List.getElem?_eq_none (by rw [ci9, List.length_map, rw11_len]; omega)]
end Go.Proofs.Ytmgppdjbmhjmbaa
namespace Go.Proofs.Ytmgppdjbmhjmbaa
open Go.RowKit Go.Maps
set_option maxRecDepth 100000
set_option linter.unusedSimpArgs false
set_option linter.unusedVariables false

end Go.Proofs.Ytmgppdjbmhjmbaa
namespace Go.Proofs.Ytmgppdjbmhjmbaa
open Go.RowKit Go.Maps
set_option maxRecDepth 100000
set_option linter.unusedSimpArgs false
set_option linter.unusedVariables false

section
variable {e : Nat → Nat → Bool} {n k i t u : Nat} {lk : Nat → Bool} {o : List Nat}
end
end Go.Proofs.Ytmgppdjbmhjmbaa
