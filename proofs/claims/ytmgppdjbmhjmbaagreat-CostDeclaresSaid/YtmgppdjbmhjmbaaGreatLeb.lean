/-
  Ed, Ee, Ef: in one text.
-/
import Derived.Test.YtmgppdjbmhjmbaaGreatLea
import Derived.Test.YtmgppdjbmhjmbaaGreatLu
import Derived.Test.YtmgppdjbmhjmbaaGreatTi
import Derived.Test.YtmgppdjbmhjmbaaGreatLk
import Derived.Test.YtmgppdjbmhjmbaaGreatNi
import Derived.Test.YtmgppdjbmhjmbaaGreatLm
namespace Go.Proofs.YtmgppdjbmhjmbaaGreat
open Go.RowKit
set_option maxRecDepth 100000
set_option linter.unusedSimpArgs false
set_option linter.unusedVariables false

end Go.Proofs.YtmgppdjbmhjmbaaGreat
namespace Go.Proofs.YtmgppdjbmhjmbaaGreat
open Go.RowKit
set_option maxRecDepth 100000
set_option linter.unusedSimpArgs false
set_option linter.unusedVariables false

/-- What tells numbers and an error. -/
def Ns11 (w w' : World) (T : List Int × Int) (e : Ending) : Prop := ∃ A' c', e = .returned (.tuple #[.slice A' T.1.length c', .int .i64 T.2]) ∧ w'.ownsRow w.heap.size 3 1 (.slice A' T.1.length c') T.1.length (ci9 T.1) ∧ Below w.heap.size w w'
theorem Ns11.err {w w' : World} {T : List Int × Int} {e : Int} (hT : T = ([], e)) (hb : Below w.heap.size w w') : Ns11 w w' T (.returned (.tuple #[.slice none 0 0, .int .i64 e])) := by
  subst hT
  exact ⟨none, 0, rfl, World.ownsRow_nil _ _ _ _, hb⟩
theorem rn_one11 (w : World) (x : Int) : Rn (w.alloc (.cells #[.int .i64 x] 3)) (some ⟨w.heap.size, 0, none⟩) 1 [x] :=
  ⟨Nat.le_refl _, by unfold maxLen; omega, .inr ⟨_, rfl, fun i y hy => by
    match i, hy with
    | 0, hy =>
      simp at hy
      subst hy
      simp [go_sem, Addr.add]⟩⟩
theorem fil_succ11 (f : Nat → Bool) (j : Nat) : ns11 ((List.range (j + 1)).filter f) = ns11 ((List.range j).filter f) ++ (if f j then [(j : Int)] else []) := by
  rw [List.range_succ, List.filter_append, ns11, List.map_append]
  cases h : f j <;> simp [h]
theorem fil_len11 (f : Nat → Bool) (j : Nat) : (ns11 ((List.range j).filter f)).length ≤ j := by
  rw [List.length_map]
  have := List.length_filter_le f (List.range j)
  rw [List.length_range] at this
  exact this
end Go.Proofs.YtmgppdjbmhjmbaaGreat
namespace Go.Proofs.YtmgppdjbmhjmbaaGreat
open Go.RowKit
set_option maxRecDepth 100000
set_option linter.unusedSimpArgs false
set_option linter.unusedVariables false

def slen11 : Value → Nat
  | .slice _ n _ => n
  | _ => 0
theorem ns11_has (o : List Nat) (j : Nat) : (ns11 o).contains (j : Int) = o.contains j := by
  have h : (ns11 o).contains (j : Int) = true ↔ o.contains j = true := by
    rw [List.contains_iff_mem, List.contains_iff_mem, ns11, List.mem_map]
    exact ⟨fun ⟨i, hi, he⟩ => by have : i = j := by omega
                                 rwa [← this], fun hj => ⟨j, hj, rfl⟩⟩
  cases h1 : o.contains j with
  | true => exact h.2 h1
  | false =>
    cases h2 : (ns11 o).contains (j : Int) with
    | false => rfl
    | true => rw [h.1 h2] at h1; cases h1
theorem rd11_ns {e : Nat → Nat → Bool} {n : Nat} {o : List Nat} {k : Nat} : rd11 e n o k = (!(ns11 o).contains (k : Int) && (ns11 ((List.range n).filter (e k))).all fun x => (ns11 o).contains x) := by
  rw [ns11_has, rd11]
  congr 1
  have h : ((List.range n).all fun j => !e k j || o.contains j) = true ↔ ((ns11 ((List.range n).filter (e k))).all fun x => (ns11 o).contains x) = true := by
    simp only [List.all_eq_true, ns11, List.mem_map, List.mem_filter, List.mem_range]
    constructor
    · rintro h1 x ⟨j, ⟨hj, he⟩, rfl⟩
      have h2 := h1 j hj
      rw [he] at h2
      have h3 := ns11_has o j
      rw [ns11] at h3
      rw [h3]
      simpa using h2
    · intro h1 j hj
      cases he : e k j with
      | false => rfl
      | true =>
        have h2 := h1 j ⟨j, ⟨hj, he⟩, rfl⟩
        have h3 := ns11_has o j
        rw [ns11] at h3
        rw [h3] at h2
        simpa using h2
  generalize ((List.range n).all fun j => !e k j || o.contains j) = a at h ⊢
  generalize ((ns11 ((List.range n).filter (e k))).all fun x => (ns11 o).contains x) = b at h ⊢
  cases a <;> cases b <;> simp at h <;> rfl
theorem nx11_of {e : Nat → Nat → Bool} {n : Nat} {o : List Nat} {k : Nat} (h1 : ∀ i, i < k → rd11 e n o i = false) (h2 : rd11 e n o k = true) (hk : k < n) : nx11 e n o = some k := by
  unfold nx11
  rw [List.find?_range_eq_some]
  exact ⟨h2, List.mem_range.2 hk, fun i hi => by rw [h1 i hi]; rfl⟩
theorem nx11_no {e : Nat → Nat → Bool} {n : Nat} {o : List Nat} (h1 : ∀ i, i < n → rd11 e n o i = false) : nx11 e n o = none := by
  unfold nx11
  rw [List.find?_eq_none]
  intro i hi
  rw [h1 i (List.mem_range.1 hi)]
  decide
theorem all_take11 {l : List Int} {i : Nat} {x : Int} {f : Int → Bool} (hx : l[i]? = some x) : (l.take (i + 1)).all f = ((l.take i).all f && f x) := by
  rw [List.take_add_one, hx, List.all_append]
  simp
end Go.Proofs.YtmgppdjbmhjmbaaGreat
