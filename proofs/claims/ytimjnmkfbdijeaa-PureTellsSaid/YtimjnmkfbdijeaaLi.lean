/-
  Pm, Pb: in one text.
-/
import Derived.Test.YtimjnmkfbdijeaaPv
import Derived.Test.YtimjnmkfbdijeaaLe
import Derived.Test.YtimjnmkfbdijeaaLd
namespace Go.Proofs.Ytimjnmkfbdijeaa
open Go.RowKit
set_option maxRecDepth 100000
set_option linter.unusedSimpArgs false
set_option linter.unusedVariables false

/-- Whether a value may be outside; whether values are a pool; where a value is first (how many values there are, if nowhere). -/
def vM (x : Vlu) : Bool := mayB x.1 x.2.1 x.2.2
def poM (L : List Vlu) : Bool := decide (L.length ≤ 32) && L.all vM
def fdK : List Vlu → Vlu → Nat
  | [], _ => 0
  | y :: L, x => if y = x then 0 else fdK L x + 1
def fdI (L : List Vlu) (x : Vlu) : Int := if fdK L x < L.length then fdK L x else -1
theorem fdK_le : ∀ (L : List Vlu) (x : Vlu), fdK L x ≤ L.length
  | [], _ => Nat.le_refl _
  | y :: L, x => by
    have := fdK_le L x
    rw [fdK, List.length_cons]
    split <;> omega
theorem fdK_at : ∀ {L : List Vlu} {x : Vlu} {j : Nat}, j ≤ fdK L x → (h : j < L.length) → (L[j] = x ↔ j = fdK L x)
  | [], _, _, _, h => by simp at h
  | y :: L, x, 0, hj, _ => by
    rw [fdK]
    by_cases e : y = x
    · simp [e]
    · simp [e]
  | y :: L, x, j + 1, hj, h => by
    by_cases e : y = x
    · rw [fdK, if_pos e] at hj; omega
    · rw [fdK, if_neg e] at hj ⊢
      have := fdK_at (L := L) (x := x) (j := j) (by omega) (by simpa using h)
      simp only [List.getElem_cons_succ]
      rw [this]
      omega
theorem fdI_hit {L : List Vlu} {x : Vlu} {j : Nat} (hj : j ≤ fdK L x) (h : j < L.length) (e : L[j] = x) : fdI L x = j := by
  have := (fdK_at hj h).1 e
  rw [fdI, if_pos (by omega), this]
theorem fdI_miss {L : List Vlu} {x : Vlu} (h : L.length ≤ fdK L x) : fdI L x = -1 := by rw [fdI, if_neg (by omega)]
theorem vlu_eq3 (x y : Vlu) (v : Bool) (h : decide (x = y) = v) : (x.1 == y.1 && x.2.1 == y.2.1 && x.2.2 == y.2.2) = v := by rw [vlu_eq, h]

end Go.Proofs.Ytimjnmkfbdijeaa
namespace Go.Proofs.Ytimjnmkfbdijeaa
open Go.RowKit
set_option maxRecDepth 100000
set_option linter.unusedSimpArgs false
set_option linter.unusedVariables false

/-- A value's bytes; a pool's; the error of what is none; a pool's bytes or none. -/
def vB (x : Vlu) : List Int := valB x.1 x.2.1 x.2.2
def poB (L : List Vlu) : List Int := (L.length : Int) :: L.flatMap vB
def poE (L : List Vlu) : Int := if poM L = true then 0 else 60
def poL (L : List Vlu) : List Int := if poM L = true then poB L else []
theorem vB_len (x : Vlu) : (vB x).length ≤ 9 := by
  rw [vB, valB]
  split <;> simp [length_digs]
theorem vB_byt (x : Vlu) : Byt (vB x) := byt_valB _ _ _
theorem vBs_len : ∀ L : List Vlu, (L.flatMap vB).length ≤ 9 * L.length
  | [] => by simp
  | x :: L => by
    have h1 := vB_len x
    have h2 := vBs_len L
    rw [List.flatMap_cons, List.length_append, List.length_cons]
    omega
theorem vBs_byt (L : List Vlu) : Byt (L.flatMap vB) := by
  intro y hy
  obtain ⟨x, _, hy⟩ := List.mem_flatMap.1 hy
  exact vB_byt x y hy
theorem poB_byt {L : List Vlu} (h : L.length ≤ 32) : Byt (poB L) := by
  intro y hy
  rcases List.mem_cons.1 hy with rfl | hy
  · omega
  · exact vBs_byt L y hy
theorem poM_le {L : List Vlu} (h : poM L = true) : L.length ≤ 32 := by simp only [poM, Bool.and_eq_true, decide_eq_true_eq] at h; exact h.1
theorem poM_at {L : List Vlu} (h : poM L = true) : ∀ x ∈ L, vM x = true := by simp only [poM, Bool.and_eq_true] at h; exact List.all_eq_true.1 h.2
theorem poL_byt (L : List Vlu) : Byt (poL L) := by
  unfold poL
  split
  · rename_i h
    exact poB_byt (poM_le h)
  · exact fun y hy => (by cases hy)
theorem poL_len (L : List Vlu) : (poL L).length ≤ 289 := by
  unfold poL
  split
  · rename_i h
    have h1 := poM_le h
    have h2 := vBs_len L
    rw [poB, List.length_cons]
    omega
  · simp
theorem bytE_of {x : Vlu} (h : vM x = true) : bytE x.1 x.2.1 x.2.2 = 0 := if_pos h
theorem bytL_of {x : Vlu} (h : vM x = true) : bytL x.1 x.2.1 x.2.2 = vB x := if_pos h
end Go.Proofs.Ytimjnmkfbdijeaa
