/-
  Plain facts on numbers and their bytes: a number's low bytes, least first ('digs'), and the number that bytes denote ('num'), undo each other. No program is named here.
-/
import Derived.WalkKit
import Derived.Lib.Hide
namespace Go.Proofs.YthmfjdafmnmgiaaDoor
open Go.RowKit

/-- The w low bytes of n, least first. -/
def digs (n : Int) : Nat → List Int
  | 0 => []
  | w + 1 => n % 256 :: digs (n / 256) w
/-- n shifted right by k bytes. -/
def sh (n : Int) : Nat → Int
  | 0 => n
  | k + 1 => sh n k / 256
/-- What bytes denote, least first. -/
def num : List Int → Int
  | [] => 0
  | b :: l => b + 256 * num l
/-- Each is a byte. -/
def Byt (l : List Int) : Prop := ∀ x ∈ l, 0 ≤ x ∧ x < 256
/-- 256^k, by a name that a walk doesn't open. -/
def p256 (k : Nat) : Int := 256 ^ k

theorem p256_zero : p256 0 = 1 := rfl
theorem p256_succ (k : Nat) : p256 (k + 1) = 256 * p256 k := by unfold p256; rw [Int.pow_succ, Int.mul_comm]
theorem p256_pos (k : Nat) : 0 < p256 k := by
  induction k with
  | zero => decide
  | succ k ih => rw [p256_succ]; omega

theorem length_digs (n : Int) (w : Nat) : (digs n w).length = w := by
  induction w generalizing n with
  | zero => rfl
  | succ w ih => simp [digs, ih]
theorem byt_digs (n : Int) (w : Nat) : Byt (digs n w) := by
  induction w generalizing n with
  | zero => intro x hx; cases hx
  | succ w ih =>
    intro x hx
    simp only [digs, List.mem_cons] at hx
    rcases hx with rfl | hx
    · omega
    · exact ih _ x hx
theorem sh_div (n : Int) (k : Nat) : sh (n / 256) k = sh n (k + 1) := by
  induction k with
  | zero => rfl
  | succ k ih => simp only [sh] at ih ⊢; rw [ih]
theorem digs_snoc (n : Int) (k : Nat) : digs n (k + 1) = digs n k ++ [sh n k % 256] := by
  induction k generalizing n with
  | zero => rfl
  | succ k ih =>
    rw [digs, ih (n / 256), sh_div]
    rfl
theorem sh_nonneg (n : Int) (h : 0 ≤ n) (k : Nat) : 0 ≤ sh n k := by
  induction k with
  | zero => exact h
  | succ k ih => simp only [sh]; omega
theorem sh_le (n : Int) (h : 0 ≤ n) (k : Nat) : sh n k ≤ n := by
  induction k with
  | zero => simp [sh]
  | succ k ih => have := sh_nonneg n h k; simp only [sh]; omega
theorem sh_bd (n a b : Int) (ha : a ≤ 0) (hb : -1 ≤ b) (h1 : a ≤ n) (h2 : n ≤ b) (k : Nat) : a ≤ sh n k ∧ sh n k ≤ b := by
  induction k with
  | zero => exact ⟨h1, h2⟩
  | succ k ih => simp only [sh]; omega
theorem num_digs (n : Int) (w : Nat) : num (digs n w) = n % p256 w := by
  induction w generalizing n with
  | zero => simp [digs, num, p256, Int.emod_one]
  | succ w ih =>
    have hp := p256_pos w
    rw [digs, num, ih, p256_succ]
    have h1 : n % (256 * p256 w) = n - 256 * p256 w * (n / (256 * p256 w)) := Int.emod_def _ _
    have h2 : n / (256 * p256 w) = n / 256 / p256 w := (Int.ediv_ediv_of_nonneg (by omega)).symm
    have h3 : n / 256 % p256 w = n / 256 - p256 w * (n / 256 / p256 w) := Int.emod_def _ _
    rw [h1, h2, h3, Int.mul_sub, Int.mul_assoc]
    generalize p256 w * (n / 256 / p256 w) = t
    omega
theorem num_nonneg {l : List Int} (h : Byt l) : 0 ≤ num l := by
  induction l with
  | nil => simp [num]
  | cons b l ih =>
    have hb := h b (by simp)
    have := ih fun x hx => h x (by simp [hx])
    simp only [num]; omega
theorem num_lt {l : List Int} (h : Byt l) : num l < p256 l.length := by
  induction l with
  | nil => decide
  | cons b l ih =>
    have hb := h b (by simp)
    have := ih fun x hx => h x (by simp [hx])
    simp only [num, List.length_cons, p256_succ]; omega
theorem digs_num {l : List Int} (h : Byt l) : digs (num l) l.length = l := by
  induction l with
  | nil => rfl
  | cons b l ih =>
    have hb := h b (by simp)
    have := ih fun x hx => h x (by simp [hx])
    simp only [num, List.length_cons, digs]
    have e1 : (b + 256 * num l) % 256 = b := by omega
    have e2 : (b + 256 * num l) / 256 = num l := by omega
    rw [e1, e2, this]
theorem digs_mod (n : Int) (w : Nat) : digs (n % p256 w) w = digs n w := by
  have h := digs_num (byt_digs n w)
  rw [num_digs, length_digs] at h
  exact h
theorem p256_8 : p256 8 = 18446744073709551616 := by decide
theorem p256_2 : p256 2 = 65536 := by decide
theorem p256_le {a b : Nat} (h : a ≤ b) : p256 a ≤ p256 b := by
  induction h with
  | refl => exact Int.le_refl _
  | step _ ih => rw [p256_succ]; have := p256_pos a; omega
theorem digs_congr {m n : Int} {w : Nat} (h : m % p256 w = n % p256 w) : digs m w = digs n w := by
  rw [← digs_mod m, ← digs_mod n, h]
theorem byt_drop {l : List Int} (h : Byt l) (k : Nat) : Byt (l.drop k) := fun x hx => h x (List.mem_of_mem_drop hx)
theorem byt_take {l : List Int} (h : Byt l) (k : Nat) : Byt (l.take k) := fun x hx => h x (List.mem_of_mem_take hx)
theorem byt_append {l m : List Int} (h : Byt l) (k : Byt m) : Byt (l ++ m) := by
  intro x hx
  rcases List.mem_append.1 hx with hx | hx
  · exact h x hx
  · exact k x hx
theorem drop_pre {l : List Int} {k : Nat} (h1 : 1 ≤ k) (h : k ≤ l.length) : l.drop (k - 1) = l[k - 1]?.getD 0 :: l.drop k := by
  obtain ⟨j, rfl⟩ : ∃ j, k = j + 1 := ⟨k - 1, by omega⟩
  rw [Nat.add_sub_cancel, List.drop_eq_getElem_cons (by omega), List.getElem?_eq_getElem (by omega)]
  rfl
theorem num_pre {l : List Int} {k : Nat} (h1 : 1 ≤ k) (h : k ≤ l.length) : num (l.drop (k - 1)) = l[k - 1]?.getD 0 + 256 * num (l.drop k) := by
  rw [drop_pre h1 h, num]
theorem p256_7 : p256 7 = 72057594037927936 := by decide
theorem sh_eq (n : Int) (k : Nat) : sh n k = n / p256 k := by
  induction k with
  | zero => simp [sh, p256]
  | succ k ih =>
    have hp := p256_pos k
    rw [sh, ih, p256_succ, Int.mul_comm, ← Int.ediv_ediv_of_nonneg (by omega)]
theorem sh_mono {n m : Int} (h : n ≤ m) (k : Nat) : sh n k ≤ sh m k := by
  induction k with
  | zero => exact h
  | succ k ih => simp only [sh]; omega
theorem sh_top {n : Int} {k : Nat} (h0 : 0 ≤ n) (h : n < p256 k) : sh n k = 0 := by
  rw [sh_eq, Int.ediv_eq_zero_of_lt h0 h]
theorem digs_at (n : Int) (W : Nat) {i : Nat} (h : i < W) : (digs n W)[i]?.getD 0 = sh n i % 256 := by
  induction W generalizing n i with
  | zero => omega
  | succ W ih =>
    cases i with
    | zero => rfl
    | succ i =>
      rw [digs, List.getElem?_cons_succ, ih (n / 256) (by omega), sh_div]
theorem num_split (l : List Int) (j : Nat) : num l = num (l.take j) + p256 j * num (l.drop j) := by
  induction j generalizing l with
  | zero => simp [num, p256]
  | succ j ih =>
    cases l with
    | nil => simp [num]
    | cons b l =>
      simp only [List.take_succ_cons, List.drop_succ_cons, num]
      rw [ih l, p256_succ, Int.mul_add, Int.mul_assoc, Int.add_assoc]
theorem num_drop_le {l : List Int} (h : Byt l) (j : Nat) : num (l.drop j) ≤ num l := by
  have h1 := num_nonneg (byt_take h j)
  have h2 := num_nonneg (byt_drop h j)
  have h3 := p256_pos j
  have h4 : num (l.drop j) ≤ p256 j * num (l.drop j) := by
    have := Int.mul_le_mul_of_nonneg_right (show 1 ≤ p256 j by omega) h2
    rwa [Int.one_mul] at this
  rw [num_split l j]
  omega
theorem part_at (l : List Int) (a k i : Nat) (hi : i < k) : ((l.drop a).take k)[i]?.getD 0 = l[a + i]?.getD 0 := by
  rw [List.getElem?_take, if_pos hi, List.getElem?_drop]
theorem num_top {l : List Int} (h : Byt l) (h8 : l.length = 8) : 9223372036854775807 < num l ↔ (127 : Int) < l[7]?.getD 0 := by
  have h1 := num_nonneg (byt_take h 7)
  have h2 := num_lt (byt_take h 7)
  have h3 : (l.take 7).length = 7 := by simp; omega
  rw [h3, p256_7] at h2
  have h4 : num (l.drop 7) = (l[7]?.getD 0 : Int) := by
    have h5 : l.drop 8 = [] := List.drop_eq_nil_of_le (by omega)
    rw [show l.drop 7 = (l[7]?.getD 0 : Int) :: l.drop 8 from drop_pre (k := 8) (by omega) (by omega), h5]
    simp [num]
  have h5 := num_split l 7
  rw [h4, p256_7] at h5
  generalize num (l.take 7) = t at *
  generalize (l[7]?.getD 0 : Int) = x at *
  omega
theorem num_low {l : List Int} (h : Byt l) (h7 : l.length ≤ 7) : num l ≤ 9223372036854775807 := by
  have h1 := num_lt h
  have h2 := p256_le h7
  rw [p256_7] at h2
  omega
end Go.Proofs.YthmfjdafmnmgiaaDoor
