/-
  What package code's functions are to answer, each as a proposition over a fact F that memory keeps (a table's cells, or nothing): the laws of layer 5 take these; the program's own are proved apart.
-/
import Derived.Test.YthmfjdafmnmgiaaDoorIns2
import Derived.Test.YthmfjdafmnmgiaaDoorCrb
import Derived.Test.YthmfjdafmnmgiaaDoorCrr
import Derived.Test.YthmfjdafmnmgiaaDoorCrp
namespace Go.Proofs.YthmfjdafmnmgiaaDoor
open Go.RowKit
set_option maxRecDepth 100000
set_option linter.unusedSimpArgs false
set_option linter.unusedVariables false

/-- The error of what isn't code; the bytes; the text. -/
def cdE (L : List Ins) : Int := if codM L = true then 0 else 40
def byL (L : List Ins) : List Int := if codM L = true then codB L else []
def txL (L : List Ins) : List Int := if codM L = true then codT L else []
/-- A text's numbers. -/
def nums (s : ByteArray) : List Int := s.data.toList.map fun u => (u.toNat : Int)
theorem nums_str (s : ByteArray) : strOfNums (nums s) = s := by
  apply ByteArray.ext
  apply Array.ext'
  simp [strOfNums, nums]
  have key : ∀ l : List UInt8, l.map ((fun n : Int => UInt8.ofNat n.toNat) ∘ fun u : UInt8 => (u.toNat : Int)) = l := by
    intro l
    induction l with
    | nil => rfl
    | cons u l ih => rw [List.map_cons, ih]; simp
  exact key _
theorem nums_byt (s : ByteArray) : Byt (nums s) := by
  intro x hx
  obtain ⟨u, _, rfl⟩ := List.mem_map.1 hx
  have := u.toNat_lt
  omega
theorem nums_len (s : ByteArray) : (nums s).length = s.size := by
  rw [nums, List.length_map]
  exact Array.length_toList
/-- No fact at all. -/
def fNo : Fct := ⟨fun _ => True, fun _ _ _ _ => trivial⟩

def KMay (F : Fct) : Prop := ∀ (A : Option Addr) (c m : Nat) (L : List Ins) (w : World), F.p w → Ri w A c L → L.length = m → Calls Tryd.prog 12 #[.slice A m c] w fun e w' => e = .returned (.bool (codM L)) ∧ Below w.heap.size w w'
def KSame (F : Fct) : Prop := ∀ (A B : Option Addr) (c d n m : Nat) (L M : List Ins) (w : World), F.p w → Ri w A c L → Ri w B d M → L.length = n → M.length = m → Calls Tryd.prog 14 #[.slice A n c, .slice B m d] w fun e w' => e = .returned (.bool (decide (L = M))) ∧ Below w.heap.size w w'
def KBytes (F : Fct) : Prop := ∀ (A : Option Addr) (c m : Nat) (L : List Ins) (w : World), F.p w → Ri w A c L → L.length = m → m ≤ 2000 → Calls Tryd.prog 16 #[.slice A m c] w fun e w' => ∃ A' c', e = .returned (.tuple #[.slice A' (byL L).length c', .int .i64 (cdE L)]) ∧
  w'.ownsRow w.heap.size 5 1 (.slice A' (byL L).length c') (byL L).length (cel (byL L)) ∧ Below w.heap.size w w'
def KRead (F : Fct) : Prop := ∀ (A : Option Addr) (c n : Nat) (l : List Int) (p : Int) (w : World), F.p w → Rd w A c l → l.length = n → Calls Tryd.prog 20 #[.slice A n c, .int .i64 p] w fun e w' => ∃ A' c', e = .returned (.tuple #[.slice A' (rdC l p).2.1.length c', .int .i64 (rdC l p).2.2, .int .i64 (rdC l p).1]) ∧
  Ri w' A' c' (rdC l p).2.1 ∧ Below w.heap.size w w'
def KText (F : Fct) : Prop := ∀ (A : Option Addr) (c m : Nat) (L : List Ins) (w : World), F.p w → Ri w A c L → L.length = m → m ≤ 2000 → Calls Tryd.prog 10 #[.slice A m c] w fun e w' => e = .returned (.tuple #[.string (strOfNums (txL L)), .int .i64 (cdE L)]) ∧ Below w.heap.size w w'
def KParse (F : Fct) : Prop := ∀ (S : List Int) (t : ByteArray) (w : World), F.p w → Byt S → strOfNums S = t → S.length ≤ 1000000 → Calls Tryd.prog 17 #[.string t] w fun e w' => ∃ A c, e = .returned (.tuple #[.slice A (psC S).2.length c, .int .i64 (psC S).1]) ∧ Ri w' A c (psC S).2 ∧ Below w.heap.size w w'

theorem psL_ok : ∀ {S cur : List Int} {K : List Ins}, (∀ x ∈ K, InOk x) → ∀ x ∈ (psL S cur K).2, InOk x
  | [], cur, K, h => by
    rw [psL]
    split
    · exact h
    · exact fun x hx => (by cases hx)
  | c :: S, cur, K, h => by
    rw [psL]
    split
    · exact psL_ok h
    · split
      · refine psL_ok fun x hx => ?_
        rcases List.mem_append.1 hx with hx | hx
        · exact h x hx
        · rw [List.mem_singleton.1 hx]; exact lnP_ok _
      · exact fun x hx => (by cases hx)
theorem psC_ok (S : List Int) : ∀ x ∈ (psC S).2, InOk x := psL_ok fun x hx => (by cases hx)
/-- The reference's Parse, as read. -/
theorem r5parse_k (S : List Int) (t : ByteArray) (w : World) (hb : Byt S) (ht : strOfNums S = t) (hl : S.length ≤ 1000000) : Calls Tryd.prog 18 #[.string t] w fun e w' => ∃ A c, e = .returned (.tuple #[.slice A (psC S).2.length c, .int .i64 (psC S).1]) ∧ Ri w' A c (psC S).2 ∧ Below w.heap.size w w' := by
  refine (r5parse_any S hb t ht hl w).mono ?_
  rintro e w1 ⟨A, c, rfl, ho, hbl⟩
  exact ⟨A, c, rfl, (Ri.of_own ho (psC_ok S)).1, hbl⟩
end Go.Proofs.YthmfjdafmnmgiaaDoor
