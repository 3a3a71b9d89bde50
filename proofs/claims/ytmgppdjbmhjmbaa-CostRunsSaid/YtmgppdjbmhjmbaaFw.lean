/-
  The law's flows: the times of code that flows well, if they come to no more than 20,000.
-/
import Derived.Test.YtmgppdjbmhjmbaaLu
namespace Go.Proofs.Ytmgppdjbmhjmbaa
open Go.RowKit
set_option maxRecDepth 100000
set_option linter.unusedSimpArgs false
set_option linter.unusedVariables false

theorem pr9_bd : ∀ (xs : List Lp), (∀ x ∈ xs, 1 ≤ K9 x ∧ K9 x ≤ 100) → 1 ≤ pr9 xs ∧ pr9 xs ≤ 100 ^ xs.length
  | [], _ => by simp [pr9]
  | x :: xs, h => by
    obtain ⟨a, b⟩ := h x List.mem_cons_self
    obtain ⟨c, d⟩ := pr9_bd xs (fun y hy => h y (List.mem_cons_of_mem _ hy))
    rw [pr9, List.length_cons, Nat.pow_succ]
    have e1 : 1 * 1 ≤ K9 x * pr9 xs := Nat.mul_le_mul a c
    have e2 : K9 x * pr9 xs ≤ 100 * 100 ^ xs.length := Nat.mul_le_mul b d
    omega
theorem lq9_four {l : List Ins} (h : flE9 l = 0) {p : Nat} (hp : p < l.length) : (lq9 (lpU9 l l.length) p).length ≤ 4 := by
  obtain ⟨-, -, hns, -⟩ := flE9_zero h
  rw [ns9, Bool.and_eq_true, List.all_eq_true, List.all_eq_true] at hns
  have := hns.2 p (List.mem_range.2 hp)
  simpa using this
theorem tm9_bd {l : List Ins} (h : flE9 l = 0) {p : Nat} (hp : p < l.length) : 1 ≤ tm9 (lpU9 l l.length) p ∧ tm9 (lpU9 l l.length) p ≤ 100000000 := by
  have hw := wl9 h
  rw [tm9_pr hw]
  obtain ⟨a, b⟩ := pr9_bd (lq9 (lpU9 l l.length) p) (fun x hx => by
    have := (hw.mem x (mem_lq9.1 hx).1).2.2.2.2.2.2
    unfold K9
    omega)
  have c : (100 : Nat) ^ (lq9 (lpU9 l l.length) p).length ≤ 100 ^ 4 := Nat.pow_le_pow_right (by omega) (lq9_four h hp)
  omega
theorem flT9_zero {l : List Ins} (h : flE9 l = 0) : (flT9 l).length = l.length ∧ ∀ p, p < l.length → (flT9 l)[p]? = some (tm9 (lpU9 l l.length) p) := by
  rw [flT9, if_pos h]
  refine ⟨by simp, fun p hp => ?_⟩
  rw [List.getElem?_map, List.getElem?_range hp]
  rfl
end Go.Proofs.Ytmgppdjbmhjmbaa
