/-
  What octet's cut, join, settle answer, for every argument: the part of the bytes, the number that it denotes; and what is cleared beside an error.
-/
import Derived.Test.YtdkhpjdhbkkfiaaPut
namespace Go.Proofs.Ytdkhpjdhbkkfiaa
open Go.RowKit

/-- cut's error. -/
def cutE (l : List Int) (p n : Int) : Int := if p < 0 ∨ l.length < p then 2 else if l.length - p < n then 10 else 0
/-- cut's part. -/
def cutL (l : List Int) (p n : Int) : List Int := if cutE l p n = 0 then (l.drop p.toNat).take n.toNat else []
/-- cut's next. -/
def cutN (l : List Int) (p n : Int) : Int := if cutE l p n = 0 then p + n else 0

theorem cut_arg {l : List Int} {p n : Int} (h : p < 0 ∨ l.length < p) : cutE l p n = 2 ∧ cutL l p n = [] ∧ cutN l p n = 0 := by
  have e : cutE l p n = 2 := by rw [cutE, if_pos h]
  exact ⟨e, by rw [cutL, if_neg (by rw [e]; decide)], by rw [cutN, if_neg (by rw [e]; decide)]⟩
theorem cut_short {l : List Int} {p n : Int} (h1 : 0 ≤ p) (h2 : p ≤ l.length) (h : l.length - p < n) : cutE l p n = 10 ∧ cutL l p n = [] ∧ cutN l p n = 0 := by
  have e : cutE l p n = 10 := by rw [cutE, if_neg (by omega), if_pos h]
  exact ⟨e, by rw [cutL, if_neg (by rw [e]; decide)], by rw [cutN, if_neg (by rw [e]; decide)]⟩
theorem cut_yes {l : List Int} {p n : Int} (h1 : 0 ≤ p) (h2 : p ≤ l.length) (h : n ≤ l.length - p) : cutE l p n = 0 ∧ cutL l p n = (l.drop p.toNat).take n.toNat ∧ cutN l p n = p + n := by
  have e : cutE l p n = 0 := by rw [cutE, if_neg (by omega), if_neg (by omega)]
  exact ⟨e, by rw [cutL, if_pos e], by rw [cutN, if_pos e]⟩
theorem byt_cut {l : List Int} (h : Byt l) (p n : Int) : Byt (cutL l p n) := by
  unfold cutL
  split
  · exact byt_take (byt_drop h _) _
  · intro x hx; cases hx

theorem cutE_inv {l : List Int} {p W : Int} (h : cutE l p W = 0) : 0 ≤ p ∧ p ≤ l.length ∧ W ≤ l.length - p := by
  by_cases h1 : p < 0 ∨ l.length < p
  · rw [(cut_arg h1).1] at h; simp at h
  · by_cases h2 : l.length - p < W
    · rw [(cut_short (by omega) (by omega) h2).1] at h; simp at h
    · omega
end Go.Proofs.Ytdkhpjdhbkkfiaa
