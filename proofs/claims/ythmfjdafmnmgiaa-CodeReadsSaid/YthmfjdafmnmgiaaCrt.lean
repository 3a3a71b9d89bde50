/-
  The text of code, by definition; what the reference's Digits and Text answer.
-/
import Derived.Test.YthmfjdafmnmgiaaCrb
import Derived.Test.YthmfjdafmnmgiaaOpn
namespace Go.Proofs.Ythmfjdafmnmgiaa
open Go.RowKit
set_option maxRecDepth 100000
set_option linter.unusedSimpArgs false
set_option linter.unusedVariables false

/-- A name's numbers. -/
def nmI (n : Int) : List Int := (opS n).data.toList.map fun u => (u.toNat : Int)
theorem nmI_str (n : Int) : strOfNums (nmI n) = opS n := by
  apply ByteArray.ext
  apply Array.ext'
  simp [strOfNums, nmI]
  have key : ∀ l : List UInt8, l.map ((fun n : Int => UInt8.ofNat n.toNat) ∘ fun u : UInt8 => (u.toNat : Int)) = l := by
    intro l
    induction l with
    | nil => rfl
    | cons u l ih => rw [List.map_cons, ih]; simp
  exact key _
theorem nmI_byt (n : Int) : Byt (nmI n) := by
  intro x hx
  obtain ⟨u, _, rfl⟩ := List.mem_map.1 hx
  have := u.toNat_lt
  omega
/-- A number's digits. -/
def dgT (n : Nat) : List Int := if n < 10 then [48 + (n : Int)] else dgT (n / 10) ++ [48 + (n : Int) % 10]
theorem dgT_lt {n : Nat} (h : n < 10) : dgT n = [48 + (n : Int)] := by rw [dgT, if_pos h]
theorem dgT_ge {n : Nat} (h : ¬ n < 10) : dgT n = dgT (n / 10) ++ [48 + (n : Int) % 10] := by rw [dgT, if_neg h]
theorem str_append (L M : List Int) : strOfNums L ++ strOfNums M = strOfNums (L ++ M) := by
  apply ByteArray.ext
  simp [strOfNums]
theorem str_size (L : List Int) : (strOfNums L).size = L.length := by simp [strOfNums, ByteArray.size]
theorem len_dg1 {n : Nat} (h : n < 10) : (dgT n).length = 1 := by rw [dgT_lt h]; rfl
theorem len_dgs {n : Nat} (h : ¬ n < 10) : (dgT n).length = (dgT (n / 10)).length + 1 := by rw [dgT_ge h, List.length_append]; rfl
theorem len_dgT (n : Nat) (hn : n ≤ 9999) : 1 ≤ (dgT n).length ∧ (dgT n).length ≤ 4 := by
  by_cases h1 : n < 10
  · have := len_dg1 h1; omega
  · have e1 := len_dgs h1
    by_cases h2 : n / 10 < 10
    · have := len_dg1 h2; omega
    · have e2 := len_dgs h2
      by_cases h3 : n / 10 / 10 < 10
      · have := len_dg1 h3; omega
      · have e3 := len_dgs h3
        have := len_dg1 (show n / 10 / 10 / 10 < 10 by omega)
        omega
/-- An instruction's line; code's text. -/
def lnT (x : Ins) : List Int := nmI x.1 ++ (if wdB x.1 then 32 :: dgT x.2.1.toNat else []) ++ [10]
def codT (L : List Ins) : List Int := L.flatMap lnT
theorem size_10 : (⟨#[10]⟩ : ByteArray).size = 1 := rfl
theorem size_32 : (⟨#[32]⟩ : ByteArray).size = 1 := rfl
theorem str_nil : strOfNums [] = ByteArray.empty := rfl
theorem opS_size (n : Int) : (opS n).size ≤ 5 := by
  rw [opS]
  split
  · rename_i h
    have key : ∀ i : Nat, i < 33 → (opNm.getD i []).length ≤ 5 := by decide
    have := key n.toNat (by omega)
    simpa [ByteArray.size] using this
  · decide
theorem codT_succ {L : List Ins} {j : Nat} (h : j < L.length) : codT (L.take (j + 1)) = codT (L.take j) ++ lnT L[j] := by
  rw [codT, List.take_add_one, List.getElem?_eq_getElem h, Option.toList_some, List.flatMap_append, ← codT, List.flatMap_cons, List.flatMap_nil, List.append_nil]
theorem size_app (s t : ByteArray) : (s ++ t).size = s.size + t.size := by simp
end Go.Proofs.Ythmfjdafmnmgiaa
