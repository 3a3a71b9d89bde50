/-
  Reading code, by definition; what the reference's Read answers.
-/
import Derived.Test.YthmfjdafmnmgiaaDoorIns2
namespace Go.Proofs.YthmfjdafmnmgiaaDoor
open Go.RowKit
set_option linter.unusedSimpArgs false
set_option linter.unusedVariables false

/-- One instruction at p: an error, or it and the place behind it. -/
def rd1 (l : List Int) (p : Nat) : Int × Ins × Nat :=
  if l.length ≤ p then (10, (0, 0, 0), 0) else
  let n := l[p]?.getD 0
  if ¬ n < 33 then (40, (0, 0, 0), 0) else
  if wdB n = true then
    if l.length < p + 3 then (10, (0, 0, 0), 0) else
    let a := l[p + 1]?.getD 0 + 256 * l[p + 2]?.getD 0
    if opM n a 0 = true then (0, (n, a, 0), p + 3) else (40, (0, 0, 0), 0)
  else if opM n 0 0 = true then (0, (n, 0, 0), p + 1) else (40, (0, 0, 0), 0)
/-- Instructions ahead of what was read behind them. -/
def apC (K : List Ins) (r : Int × List Ins × Nat) : Int × List Ins × Nat := if r.1 = 0 then (0, K ++ r.2.1, r.2.2) else (r.1, [], 0)
/-- k instructions at p. -/
def rdS (l : List Int) : Nat → Nat → Int × List Ins × Nat
  | 0, p => (0, [], p)
  | k + 1, p => if (rd1 l p).1 = 0 then apC [(rd1 l p).2.1] (rdS l k (rd1 l p).2.2) else ((rd1 l p).1, [], 0)
/-- Code at a place: the instructions, the place behind them, the error. -/
def rdC (l : List Int) (p : Int) : Int × List Ins × Nat :=
  if p < 0 ∨ l.length < p then (2, [], 0) else
  if p = l.length then (10, [], 0) else
  let m := l[p.toNat]?.getD 0
  if m < 1 ∨ 200 < m then (40, [], 0) else rdS l m.toNat (p.toNat + 1)
theorem apC_apC (K M : List Ins) (r : Int × List Ins × Nat) : apC K (apC M r) = apC (K ++ M) r := by
  unfold apC
  by_cases h : r.1 = 0
  · simp [h]
  · simp [h]
theorem apC_nil {r : Int × List Ins × Nat} (h : r.1 ≠ 0 → r.2.1 = [] ∧ r.2.2 = 0) : apC [] r = r := by
  obtain ⟨e, L, q⟩ := r
  unfold apC
  by_cases h0 : e = 0
  · subst h0; rfl
  · obtain ⟨h1, h2⟩ := h h0
    simp at h1 h2
    subst h1 h2
    simp [h0]
theorem rdS_err (l : List Int) (k p : Nat) : (rdS l k p).1 ≠ 0 → (rdS l k p).2.1 = [] ∧ (rdS l k p).2.2 = 0 := by
  cases k with
  | zero => intro h; exact absurd rfl h
  | succ k =>
    intro h
    rw [rdS] at h ⊢
    split at h
    · rename_i h1
      rw [if_pos h1]
      unfold apC at h ⊢
      split at h
      · exact absurd rfl h
      · rename_i h2
        rw [if_neg h2]
        exact ⟨rfl, rfl⟩
    · rename_i h1
      rw [if_neg h1]
      exact ⟨rfl, rfl⟩
theorem rdS_yes {l : List Int} {k p : Nat} {x : Ins} {q : Nat} (h : rd1 l p = (0, x, q)) : rdS l (k + 1) p = apC [x] (rdS l k q) := by rw [rdS, h, if_pos rfl]
theorem rdS_no {l : List Int} {k p : Nat} {e : Int} (h : (rd1 l p).1 = e) (he : e ≠ 0) : rdS l (k + 1) p = (e, [], 0) := by rw [rdS, if_neg (by rw [h]; exact he), h]
theorem rd1_short {l : List Int} {p : Nat} (h : l.length ≤ p) : rd1 l p = (10, (0, 0, 0), 0) := by rw [rd1, if_pos h]
theorem rd1_op {l : List Int} {p : Nat} (h : p < l.length) (h1 : ¬ l[p]?.getD 0 < 33) : rd1 l p = (40, (0, 0, 0), 0) := by rw [rd1, if_neg (by omega)]; simp only; rw [if_pos h1]
theorem rd1_few {l : List Int} {p : Nat} (h : p < l.length) (h1 : l[p]?.getD 0 < 33) (hw : wdB (l[p]?.getD 0) = true) (h2 : l.length < p + 3) : rd1 l p = (10, (0, 0, 0), 0) := by
  rw [rd1, if_neg (by omega)]; simp only; rw [if_neg (by omega), if_pos hw, if_pos h2]
theorem rd1_wide {l : List Int} {p : Nat} {v : Bool} (h1 : l[p]?.getD 0 < 33) (hw : wdB (l[p]?.getD 0) = true) (h2 : p + 3 ≤ l.length) (hv : opM (l[p]?.getD 0) (l[p + 1]?.getD 0 + 256 * l[p + 2]?.getD 0) 0 = v) :
    rd1 l p = if v = true then (0, (l[p]?.getD 0, l[p + 1]?.getD 0 + 256 * l[p + 2]?.getD 0, 0), p + 3) else (40, (0, 0, 0), 0) := by
  rw [rd1, if_neg (by omega)]; simp only; rw [if_neg (by omega), if_pos hw, if_neg (by omega), hv]
theorem rd1_slim {l : List Int} {p : Nat} {v : Bool} (h : p < l.length) (h1 : l[p]?.getD 0 < 33) (hw : wdB (l[p]?.getD 0) = false) (hv : opM (l[p]?.getD 0) 0 0 = v) :
    rd1 l p = if v = true then (0, (l[p]?.getD 0, 0, 0), p + 1) else (40, (0, 0, 0), 0) := by
  rw [rd1, if_neg (by omega)]; simp only; rw [if_neg (by omega), if_neg (by rw [hw]; decide), hv]
theorem r4known_v (n : Int) (v : Bool) (w : World) (h : opK n = v) : Calls Tryd.prog 55 #[.int .u8 n] w fun e w' => e = .returned (.bool v) ∧ w = w' := by
  have := r4known_any n w
  rwa [h] at this
theorem wide_v (n : Int) (v : Bool) (w : World) (h : wdB n = v) : Calls Tryd.prog 22 #[.int .u8 n] w fun e w' => e = .returned (.bool v) ∧ w = w' := by
  have := wide_any n w
  rwa [h] at this

theorem rdC_neg {l : List Int} {p : Int} (h : p < 0 ∨ l.length < p) : rdC l p = (2, [], 0) := by rw [rdC, if_pos h]
theorem rdC_end {l : List Int} {p : Int} (h : p = l.length) : rdC l p = (10, [], 0) := by rw [rdC, if_neg (by omega), if_pos h]
theorem rdC_many {l : List Int} {p : Nat} (h : p < l.length) (h1 : l[p]?.getD 0 < 1 ∨ 200 < l[p]?.getD 0) : rdC l p = (40, [], 0) := by
  rw [rdC, if_neg (by omega), if_neg (by omega)]
  simp only [Int.toNat_natCast]
  rw [if_pos h1]
theorem rdC_yes {l : List Int} {p m : Nat} (h : p < l.length) (hm : l[p]?.getD 0 = m) (h1 : 1 ≤ m ∧ m ≤ 200) : rdC l p = rdS l m (p + 1) := by
  rw [rdC, if_neg (by omega), if_neg (by omega)]
  simp only [Int.toNat_natCast]
  rw [if_neg (by omega), hm, Int.toNat_natCast]
end Go.Proofs.YthmfjdafmnmgiaaDoor
