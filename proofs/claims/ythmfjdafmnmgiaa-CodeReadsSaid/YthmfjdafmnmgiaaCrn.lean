/-
  A number, a line, by definition; what the reference's number answers.
-/
import Derived.Test.YthmfjdafmnmgiaaCrt
namespace Go.Proofs.Ythmfjdafmnmgiaa
open Go.RowKit
set_option maxRecDepth 100000
set_option linter.unusedSimpArgs false
set_option linter.unusedVariables false

/-- Texts of bytes are the same just if the bytes are. -/
theorem str_eqb {L M : List Int} (h1 : Byt L) (h2 : Byt M) : ((strOfNums L).toList == (strOfNums M).toList) = decide (L = M) := by
  rw [Lib.strOfNums_toList, Lib.strOfNums_toList]
  have key : ∀ {L M : List Int}, Byt L → Byt M → L.map (fun n => UInt8.ofNat n.toNat) = M.map (fun n => UInt8.ofNat n.toNat) → L = M := by
    intro L
    induction L with
    | nil => intro M _ _ h; cases M with
      | nil => rfl
      | cons y M => simp at h
    | cons x L ih =>
      intro M h1 h2 h
      cases M with
      | nil => simp at h
      | cons y M =>
        simp only [List.map_cons, List.cons.injEq] at h
        have hx := h1 x (by simp)
        have hy := h2 y (by simp)
        have e : x.toNat = y.toNat := by
          have := congrArg UInt8.toNat h.1
          simp only [UInt8.toNat_ofNat'] at this
          omega
        rw [ih (fun z hz => h1 z (by simp [hz])) (fun z hz => h2 z (by simp [hz])) h.2, show x = y by omega]
  by_cases h : L = M
  · subst h; simp
  · rw [decide_eq_false h]
    simp only [beq_eq_false_iff_ne]
    exact fun e => h (key h1 h2 e)
theorem str_num {L : List Int} (hb : Byt L) {s : ByteArray} (hs : strOfNums L = s) (j : Nat) (h : j < s.size) (h' : j < L.length) : ((s[j]'h).toNat : Int) = L[j] := by
  subst hs
  have hx := hb L[j] (List.getElem_mem h')
  have e : (strOfNums L)[j]'h = UInt8.ofNat (L[j]).toNat := by
    have h1 : (strOfNums L)[j]'h = (strOfNums L).data[j]'h := rfl
    rw [h1]
    simp [strOfNums]
  rw [e, UInt8.toNat_ofNat']
  omega
theorem dgT_byt (n : Nat) : Byt (dgT n) := by
  induction n using Nat.strongRecOn with
  | ind n ih =>
    by_cases h : n < 10
    · rw [dgT_lt h]
      intro x hx
      rw [List.mem_singleton.1 hx]
      omega
    · rw [dgT_ge h]
      refine byt_append (ih _ (by omega)) fun x hx => ?_
      rw [List.mem_singleton.1 hx]
      omega
/-- What digits come to; whether each is one. -/
def vlT (S : List Int) : Int := S.foldl (fun n c => 10 * n + (c - 48)) 0
def dgA (S : List Int) : Bool := S.all fun c => decide (48 ≤ c) && decide (c ≤ 57)
/-- A number, out of its digits; none's is -1. -/
def numT (S : List Int) : Int := if S.length < 1 ∨ 4 < S.length then -1 else if dgA S = false then -1 else if dgT (vlT S).toNat = S then vlT S else -1
theorem vlT_snoc (S : List Int) (c : Int) : vlT (S ++ [c]) = 10 * vlT S + (c - 48) := by simp [vlT]
theorem vlT_bd : ∀ S : List Int, dgA S = true → S.length ≤ 4 → 0 ≤ vlT S ∧ vlT S ≤ 9999 ∧ (S.length ≤ 3 → vlT S ≤ 999) := by
  intro S h hl
  simp only [dgA, List.all_eq_true, Bool.and_eq_true, decide_eq_true_eq] at h
  match S, hl with
  | [], _ => decide
  | [a], _ => have h1 := h a (by simp); simp [vlT]; omega
  | [a, b], _ => have h1 := h a (by simp); have h2 := h b (by simp); simp [vlT]; omega
  | [a, b, c], _ => have h1 := h a (by simp); have h2 := h b (by simp); have h3 := h c (by simp); simp [vlT]; omega
  | [a, b, c, d], _ => have h1 := h a (by simp); have h2 := h b (by simp); have h3 := h c (by simp); have h4 := h d (by simp); simp [vlT]; omega
theorem dgA_take {S : List Int} {j : Nat} (h : dgA (S.take j) = true) (hj : j < S.length) (h1 : 48 ≤ S[j]) (h2 : S[j] ≤ 57) : dgA (S.take (j + 1)) = true := by
  rw [dgA, List.take_add_one, List.getElem?_eq_getElem hj, Option.toList_some, List.all_append, ← dgA, h]
  simp [h1, h2]
theorem dgA_no {S : List Int} {j : Nat} (hj : j < S.length) (h : S[j] < 48 ∨ 57 < S[j]) : dgA S = false := by
  refine List.all_eq_false.2 ⟨S[j], List.getElem_mem hj, ?_⟩
  simp
  omega
end Go.Proofs.Ythmfjdafmnmgiaa
