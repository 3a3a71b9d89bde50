/-
  What octet.Put, Signed and Row answer, for every argument: the bytes and the error, in a new slice; nothing that was there has changed.
-/
import Derived.Test.YthmfjdafmnmgiaaDoorSplit
namespace Go.Proofs.YthmfjdafmnmgiaaDoor
open Go.RowKit

/-- Put's error. -/
def putE (W n : Int) : Int := if W < 1 ∨ 8 < W then 2 else if n < 0 ∨ p256 W.toNat ≤ n then 11 else 0
/-- Put's bytes. -/
def putL (W n : Int) : List Int := if putE W n = 0 then digs n W.toNat else []

theorem measured_yes (W : Int) (w : World) (h1 : 1 ≤ W) (h2 : W ≤ 8) : Calls Tryd.prog 59 #[.int .i64 W] w fun e w' => e = .returned (.bool true) ∧ w = w' := by
  go_enter Tryd.func59, Tryd.ntmps59
  go_wp2
  go_ret
  exact ⟨rfl, rfl⟩
theorem measured_no (W : Int) (w : World) (h : W < 1 ∨ 8 < W) : Calls Tryd.prog 59 #[.int .i64 W] w fun e w' => e = .returned (.bool false) ∧ w = w' := by
  by_cases h1 : 1 ≤ W
  · have h2 : ¬ W ≤ 8 := by omega
    clear h
    go_enter Tryd.func59, Tryd.ntmps59
    go_wp2
    go_ret
    exact ⟨rfl, rfl⟩
  · clear h
    go_enter Tryd.func59, Tryd.ntmps59
    go_wp2
    go_ret
    exact ⟨rfl, rfl⟩

theorem shift_all (n : Int) (W : Nat) : n / 2 ^ (8 * W) = n / p256 W := by
  rw [Int.pow_mul]
  rfl
theorem shift_no {n : Int} {W : Nat} (h0 : 0 ≤ n) (h : n / 2 ^ (8 * W) ≤ 0) : n < p256 W := by
  rw [shift_all] at h
  have hp := p256_pos W
  have h1 : 0 ≤ n / p256 W := Int.ediv_nonneg h0 (Int.le_of_lt hp)
  have h2 : n / p256 W = 0 := by omega
  have h3 := Int.emod_lt_of_pos n hp
  have h4 := Int.emod_add_mul_ediv n (p256 W)
  rw [h2] at h4
  omega
theorem shift_yes {n : Int} {W : Nat} (h : n < 0 ∨ 0 < n / 2 ^ (8 * W)) : n < 0 ∨ p256 W ≤ n := by
  rcases h with h | h
  · exact .inl h
  · refine .inr ?_
    rw [shift_all] at h
    rcases Int.lt_or_le n (p256 W) with h1 | h1
    · rcases Int.lt_or_le n 0 with h0 | h0
      · have := Int.ediv_neg_of_neg_of_pos h0 (p256_pos W)
        omega
      · rw [Int.ediv_eq_zero_of_lt h0 h1] at h
        omega
    · exact h1
theorem put_yes {n : Int} {k : Nat} (h1 : 1 ≤ k) (h8 : k ≤ 8) (h0 : 0 ≤ n) (h : n < p256 k) : putE k n = 0 ∧ putL k n = digs n k := by
  have e : putE k n = 0 := by
    unfold putE
    rw [if_neg (by omega), Int.toNat_natCast, if_neg (by omega)]
  exact ⟨e, by rw [putL, if_pos e, Int.toNat_natCast]⟩
theorem put_wide {n : Int} {k : Nat} (h1 : 1 ≤ k) (h8 : k ≤ 8) (h : n < 0 ∨ p256 k ≤ n) : putE k n = 11 ∧ putL k n = [] := by
  have e : putE k n = 11 := by
    unfold putE
    rw [if_neg (by omega), Int.toNat_natCast, if_pos h]
  exact ⟨e, by rw [putL, if_neg (by rw [e]; decide)]⟩

set_option maxHeartbeats 400000 in
theorem put_any (W n : Int) (w : World) :
    Calls Tryd.prog 44 #[.int .i64 W, .int .i64 n] w fun e w' => ∃ A c, e = .returned (.tuple #[.slice A (putL W n).length c, .int .i64 (putE W n)]) ∧
      w'.ownsRow w.heap.size 5 1 (.slice A (putL W n).length c) (putL W n).length (cel (putL W n)) ∧ Below w.heap.size w w' := by
  by_cases hW : W < 1 ∨ 8 < W
  · have e1 : putE W n = 2 := by simp [putE, hW]
    have e2 : putL W n = [] := by simp [putL, e1]
    rw [e1, e2]
    clear e1 e2
    go_enter Tryd.func44, Tryd.ntmps44
    go_wp2_with (go_at_call 59; refine (measured_no _ _ hW).mono ?_; rintro e w' ⟨rfl, rfl⟩)
    go_ret2
    exact ⟨none, 0, rfl, World.ownsRow_nil _ _ _ _, Below.refl _ _⟩
  · obtain ⟨k, rfl⟩ : ∃ k : Nat, W = k := ⟨W.toNat, by omega⟩
    have h1 : 1 ≤ k := by omega
    have h8 : k ≤ 8 := by omega
    clear hW
    by_cases hneg : n < 0
    · have e1 : putE k n = 11 := by unfold putE; rw [if_neg (by omega), if_pos (.inl hneg)]
      have e2 : putL k n = [] := by simp [putL, e1]
      rw [e1, e2]
      clear e1 e2
      go_enter Tryd.func44, Tryd.ntmps44
      go_wp2_with (go_at_call 59; refine (measured_yes _ _ (by omega) (by omega)).mono ?_; rintro e w' ⟨rfl, rfl⟩)
      go_ret2
      exact ⟨none, 0, rfl, World.ownsRow_nil _ _ _ _, Below.refl _ _⟩
    · go_enter Tryd.func44, Tryd.ntmps44
      go_wp2_with (go_at_call 59; refine (measured_yes _ _ (by omega) (by omega)).mono ?_; rintro e w' ⟨rfl, rfl⟩)
      · have hw : n < 0 ∨ 0 < n / 2 ^ (8 * k) := by assumption
        go_ret2
        obtain ⟨e1, e2⟩ := put_wide h1 h8 (shift_yes hw)
        rw [e1, e2]
        exact ⟨none, 0, rfl, World.ownsRow_nil _ _ _ _, Below.refl _ _⟩
      · have hw : 0 ≤ n ∧ n / 2 ^ (8 * k) ≤ 0 := by assumption
        refine (split_int n k _ h8).mono ?_
        rintro e w' ⟨rfl, hown, hb⟩
        go_wp2
        go_ret2
        obtain ⟨e1, e2⟩ := put_yes h1 h8 hw.1 (shift_no hw.1 hw.2)
        rw [e1, e2, length_digs]
        exact ⟨_, _, rfl, hown, hb⟩

/-- Row's error, and its bytes. -/
def rowE (l : List Int) : Int := if 65535 < l.length then 3 else 0
def rowL (l : List Int) : List Int := if 65535 < l.length then [] else digs l.length 2 ++ l

theorem put_inv {W n : Int} (h : putE W n = 0) : ∃ k : Nat, W = k ∧ 1 ≤ k ∧ k ≤ 8 ∧ 0 ≤ n ∧ n < p256 k ∧ putL W n = digs n k := by
  have h' := h
  unfold putE at h
  split at h
  · simp at h
  · split at h
    · simp at h
    · rename_i h1 h2
      obtain ⟨k, rfl⟩ : ∃ k : Nat, W = k := ⟨W.toNat, by omega⟩
      rw [Int.toNat_natCast] at h2
      exact ⟨k, rfl, by omega, by omega, by omega, by omega, by rw [putL, if_pos h', Int.toNat_natCast]⟩
theorem byt_putL (W n : Int) : Byt (putL W n) := by
  unfold putL
  split
  · exact byt_digs _ _
  · intro x hx; cases hx
theorem byt_rowL {l : List Int} (h : Byt l) : Byt (rowL l) := by
  unfold rowL
  split
  · intro x hx; cases hx
  · exact byt_append (byt_digs _ _) h
end Go.Proofs.YthmfjdafmnmgiaaDoor
