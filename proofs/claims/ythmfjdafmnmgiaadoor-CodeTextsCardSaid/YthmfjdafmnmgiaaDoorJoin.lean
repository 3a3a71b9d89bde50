/-
  What octet's join answers: the number that at most 8 bytes denote, least first.
-/
import Derived.Test.YthmfjdafmnmgiaaDoorCut
namespace Go.Proofs.YthmfjdafmnmgiaaDoor
open Go.RowKit

theorem or_nat (x b : Nat) (hb : b < 256) : x * 256 ||| b = x * 256 + b := by
  have h := Nat.two_pow_add_eq_or_of_lt (i := 8) (b := b) (by omega) x
  rw [show (2 : Nat) ^ 8 = 256 from rfl, Nat.mul_comm] at h
  exact h.symm
theorem cast_join (n m : Nat) : ((n * 256 + m : Nat) : Int) = m + 256 * n := by omega
theorem or_u64 {x b : Int} (hx0 : 0 ≤ x) (hx1 : x < 72057594037927936) (hb : 0 ≤ b ∧ b < 256) : bits .or .u64 (x * 256) b = b + 256 * x := by
  obtain ⟨n, rfl⟩ : ∃ n : Nat, x = n := ⟨x.toNat, by omega⟩
  obtain ⟨m, rfl⟩ : ∃ m : Nat, b = m := ⟨b.toNat, by omega⟩
  have h := bits_or_u64_nat (n * 256) m (by omega) (by omega)
  rw [or_nat n m (by omega)] at h
  have e : ((n * 256 : Nat) : Int) = (n : Int) * 256 := by omega
  simp only [e] at h
  exact h.trans (cast_join n m)
theorem or_i64 {y b : Int} (hb : 0 ≤ b ∧ b < 256) : bits .or .i64 (wrap64 (y * 256)) b = wrap64 (y * 256 + b) := by
  obtain ⟨m, rfl⟩ : ∃ m : Nat, b = m := ⟨b.toNat, by omega⟩
  show IntKind.i64.wrap ((BitVec.ofInt 64 (wrap64 (y * 256)) ||| BitVec.ofInt 64 (m : Int)).toNat : Int) = _
  have e1 : (BitVec.ofInt 64 (wrap64 (y * 256))).toNat = (y % 72057594037927936).toNat * 256 := by
    rw [BitVec.toNat_ofInt]
    unfold wrap64
    have : ((2 ^ 64 : Nat) : Int) = 18446744073709551616 := by decide
    rw [this]
    omega
  have e2 : (BitVec.ofInt 64 (m : Int)).toNat = m := by
    rw [BitVec.ofInt_natCast, BitVec.toNat_ofNat]; exact Nat.mod_eq_of_lt (by omega)
  rw [BitVec.toNat_or, e1, e2, or_nat _ _ (by omega), IntKind.wrap_i64]
  unfold wrap64
  omega

theorem wrap_join (z b : Int) : wrap64 (wrap64 z * 256 + b) = wrap64 (b + 256 * z) := by unfold wrap64; omega

set_option maxHeartbeats 400000 in
theorem join_u64 (A : Option Addr) (c : Nat) (l : List Int) (w : World) (hr : Rd w A c l) (h8 : l.length ≤ 8) :
    Calls Tryd.prog 78 #[.slice A l.length c] w fun e w' => e = .returned (.int .u64 (num l)) ∧ w = w' := by
  have hlen := hr.len
  go_enter Tryd.func78, Tryd.ntmps78
  go_wp2_with fail
  go_loop [3, 4] (fun n i => ∃ k : Nat, k ≤ l.length ∧ i = .int .i64 ((k : Int) - 1) ∧ n = .int .u64 (num (l.drop k))) (fun _ i => (intOf i + 1).toNat)
  case atStart => exact ⟨l.length, Nat.le_refl _, rfl, by rw [List.drop_length]; rfl⟩
  case round =>
    obtain ⟨k, hk, rfl, rfl⟩ := hrel
    by_cases h1 : 1 ≤ k
    · obtain ⟨ad, rfl, hcell⟩ := hr.at_ (i := k - 1) (by omega)
      have hb := hr.byte (k - 1)
      have hx0 := num_nonneg (byt_drop hr.byt k)
      have hx1 : num (l.drop k) < 72057594037927936 := by
        have h2 := num_lt (byt_drop hr.byt k)
        have h3 : p256 (l.drop k).length ≤ p256 7 := p256_le (by rw [List.length_drop]; omega)
        rw [p256_7] at h3
        omega
      have hp := num_pre h1 hk
      have HP := Lib.hid hp
      clear hp
      have e : ((k : Int) - 1).toNat = k - 1 := by omega
      go_wp2
      go_round
      case rel =>
        exact ⟨k - 1, by omega, by rw [show ((k - 1 : Nat) : Int) = (k : Int) - 1 from by omega], by rw [or_u64 hx0 hx1 hb, HP.out]⟩
      case measure => simp [intOf]; omega
    · obtain rfl : k = 0 := by omega
      go_wp2
      go_ret
      exact ⟨rfl, rfl⟩
end Go.Proofs.YthmfjdafmnmgiaaDoor
