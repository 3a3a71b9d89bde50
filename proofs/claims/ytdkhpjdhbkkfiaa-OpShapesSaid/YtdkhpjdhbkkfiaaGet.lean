/-
  What octet.Get answers, for every argument: the number, the next offset and the error; nothing that was there has changed.
-/
import Derived.Test.YtdkhpjdhbkkfiaaSettle
namespace Go.Proofs.Ytdkhpjdhbkkfiaa
open Go.RowKit

/-- Get's error, number and next. -/
def getE (l : List Int) (p W : Int) : Int := if W < 1 ∨ 8 < W then 2 else if cutE l p W = 0 then (if 9223372036854775807 < num (cutL l p W) then 11 else 0) else cutE l p W
def getV (l : List Int) (p W : Int) : Int := if getE l p W = 0 then num (cutL l p W) else 0
def getN (l : List Int) (p W : Int) : Int := if getE l p W = 0 then p + W else 0

theorem cutL_le (l : List Int) (p W : Int) (k : Nat) (h : W ≤ k) : (cutL l p W).length ≤ k := by
  unfold cutL
  split
  · simp; omega
  · simp
theorem get_bad {l : List Int} {p W : Int} (h : W < 1 ∨ 8 < W) : getE l p W = 2 := by rw [getE, if_pos h]
theorem get_eq {l : List Int} {p W : Int} (h : 1 ≤ W ∧ W ≤ 8) : getE l p W = if cutE l p W = 0 then (if 9223372036854775807 < num (cutL l p W) then 11 else 0) else cutE l p W := by rw [getE, if_neg (by omega)]
theorem get_big {l : List Int} {p W : Int} (h : 1 ≤ W ∧ W ≤ 8) (hb : 9223372036854775807 < num (cutL l p W)) : getE l p W = 11 := by
  rw [get_eq h]
  by_cases h0 : cutE l p W = 0
  · rw [if_pos h0, if_pos hb]
  · rw [cutL, if_neg h0] at hb
    simp [num] at hb
theorem get_small {l : List Int} {p W : Int} (h : 1 ≤ W ∧ W ≤ 8) (hb : num (cutL l p W) ≤ 9223372036854775807) : getE l p W = cutE l p W := by
  rw [get_eq h, if_neg (Int.not_lt.2 hb)]
  split
  · rename_i h0; exact h0.symm
  · rfl

theorem get_short {l : List Int} {p W : Int} (h : 1 ≤ W ∧ W ≤ 8) (h0 : 0 ≤ p) (h1 : p ≤ l.length) (h2 : l.length - p < W) : getE l p W = 10 := by
  have e := (cut_short h0 h1 h2).1
  rw [get_eq h, e]
  rfl
theorem get_ok {l : List Int} {p W : Int} (h : 1 ≤ W ∧ W ≤ 8) (h0 : 0 ≤ p) (h1 : p ≤ l.length) (h2 : W ≤ l.length - p) (hb : num ((l.drop p.toNat).take W.toNat) ≤ 9223372036854775807) :
    getE l p W = 0 ∧ getV l p W = num ((l.drop p.toNat).take W.toNat) ∧ getN l p W = p + W := by
  obtain ⟨e1, e2, _⟩ := cut_yes h0 h1 h2
  have e : getE l p W = 0 := by rw [get_eq h, if_pos e1, e2, if_neg (by omega)]
  exact ⟨e, by rw [getV, if_pos e, e2], by rw [getN, if_pos e]⟩
end Go.Proofs.Ytdkhpjdhbkkfiaa
