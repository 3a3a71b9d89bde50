/-
  What the document's own answers of layer 1 that make bytes are (Copy, Put, Signed, Row of capstanref01): the same functions of the arguments as the program's; nothing that was there has changed.
-/
import Derived.Test.YtndgiehipajghaaDoorFew
namespace Go.Proofs.YtndgiehipajghaaDoor
open Go.RowKit

theorem rput_over {n : Int} {k : Nat} (h1 : 1 ≤ k) (h8 : k ≤ 8) (h0 : 0 ≤ n) (h : 0 < sh n k) : putE k n = 11 ∧ putL k n = [] := by
  refine put_wide h1 h8 (.inr ?_)
  rcases Int.lt_or_le n (p256 k) with h2 | h2
  · rw [sh_top h0 h2] at h; simp at h
  · exact h2
theorem rput_fits {n : Int} {k : Nat} (h1 : 1 ≤ k) (h8 : k ≤ 8) (h0 : 0 ≤ n) (h : sh n k ≤ 0) : putE k n = 0 ∧ putL k n = digs n k := by
  refine put_yes h1 h8 h0 ?_
  have hp := p256_pos k
  rw [sh_eq] at h
  have h3 := Int.emod_lt_of_pos n hp
  have h4 := Int.emod_add_mul_ediv n (p256 k)
  have h5 : 0 ≤ n / p256 k := Int.ediv_nonneg h0 (Int.le_of_lt hp)
  have h6 : n / p256 k = 0 := by omega
  rw [h6] at h4
  omega

set_option maxHeartbeats 400000 in
theorem rput_any (W n : Int) (w : World) (hn : n ≤ 9223372036854775807) :
    Calls Tryd.prog 24 #[.int .i64 W, .int .i64 n] w fun e w' => ∃ A c, e = .returned (.tuple #[.slice A (putL W n).length c, .int .i64 (putE W n)]) ∧
      w'.ownsRow w.heap.size 5 1 (.slice A (putL W n).length c) (putL W n).length (cel (putL W n)) ∧ Below w.heap.size w w' := by
  obtain ⟨i0, hi, hz0, hz1, hz2⟩ := info_parts Tryd.info5
  by_cases hW1 : W < 1
  · have e1 : putE W n = 2 := by simp [putE, hW1]
    have e2 : putL W n = [] := by simp [putL, e1]
    rw [e1, e2]
    clear e1 e2
    go_enter Tryd.func24, Tryd.ntmps24
    go_wp2_with fail
    go_ret2
    exact ⟨none, 0, rfl, World.ownsRow_nil _ _ _ _, Below.refl _ _⟩
  by_cases hW8 : 8 < W
  · have e1 : putE W n = 2 := by simp [putE, hW8]
    have e2 : putL W n = [] := by simp [putL, e1]
    rw [e1, e2]
    clear e1 e2
    go_enter Tryd.func24, Tryd.ntmps24
    go_wp2_with fail
    go_ret2
    exact ⟨none, 0, rfl, World.ownsRow_nil _ _ _ _, Below.refl _ _⟩
  obtain ⟨k, rfl⟩ : ∃ k : Nat, W = k := ⟨W.toNat, by omega⟩
  have h1 : 1 ≤ k := by omega
  have h8 : k ≤ 8 := by omega
  clear hW1 hW8
  by_cases hneg : n < 0
  · obtain ⟨e1, e2⟩ := put_wide h1 h8 (n := n) (.inl hneg)
    rw [e1, e2]
    clear e1 e2
    go_enter Tryd.func24, Tryd.ntmps24
    go_wp2_with fail
    go_ret2
    exact ⟨none, 0, rfl, World.ownsRow_nil _ _ _ _, Below.refl _ _⟩
  have h0 : 0 ≤ n := by omega
  clear hneg
  go_enter Tryd.func24, Tryd.ntmps24
  go_wp2_with fail
  go_loopw [1, 6, 7] (fun x b i wr => ∃ (j : Nat) (A : Option Addr) (c : Nat), j ≤ k ∧ i = .int .i64 j ∧ x = .int .i64 (sh n j) ∧ b = .slice A j c ∧ wr.ownsRow w.heap.size 5 1 (.slice A j c) j (cel (digs n j)) ∧ Below w.heap.size w wr)
    (fun _ _ i _ => k - (intOf i).toNat)
  case atStart => exact ⟨0, none, 0, Nat.zero_le _, rfl, rfl, rfl, World.ownsRow_nil _ _ _ _, Below.refl _ _⟩
  case round =>
    obtain ⟨j, A, c, hj, rfl, rfl, rfl, hown, hb⟩ := hrel
    by_cases hlt : j < k
    · have hs0 := sh_nonneg n h0 j
      have hs9 : sh n j ≤ 9223372036854775807 := Int.le_trans (sh_le n h0 j) hn
      have hx : 0 ≤ sh n j % 256 ∧ sh n j % 256 < 256 := by omega
      have hone := rd_one wr (sh n j % 256) hx
      have hown1 := hown.alloc (.cells #[.int .u8 (sh n j % 256)] 5)
      have hb1 := hb.alloc hb.size (.cells #[.int .u8 (sh n j % 256)] 5)
      have HR := Lib.hid hone
      have HO := Lib.hid hown1
      have HB := Lib.hid hb1
      clear hone hown1 hb1 hown hb
      go_wp2_with (at_builtin; refine wpList_append_rd _ rfl _ _ 26 rfl w.heap.size 5 i0 Tryd.underlying26 hi hz0 hz1 hz2 _ j (digs n j) rfl HO.out _ 1 1 [sh n j % 256] rfl HR.out rfl (by omega) HB.out.size ?_)
      intro A' c' w2 hown2 _ hb2 _
      have HB2 := Lib.hid (HB.out.trans hb2)
      have HO2 := Lib.hid hown2
      clear hb2 hown2
      go_wp2_with fail
      go_roundw
      case rel => exact ⟨j + 1, A', c', by omega, by go_num, by rw [sh], rfl, by rw [digs_snoc]; exact HO2.out, HB2.out⟩
      case measure => simp [intOf]; omega
    · obtain rfl : j = k := by omega
      by_cases hz : 0 < sh n j
      · obtain ⟨e1, e2⟩ := rput_over h1 h8 h0 hz
        have E1 := Lib.hid e1
        have E2 := Lib.hid e2
        have HB := Lib.hid hb
        clear e1 e2 hown hb
        go_wp2_with fail
        go_ret2
        rw [E1.out, E2.out]
        exact ⟨none, 0, rfl, World.ownsRow_nil _ _ _ _, HB.out⟩
      · obtain ⟨e1, e2⟩ := rput_fits h1 h8 h0 (Int.not_lt.1 hz)
        have E1 := Lib.hid e1
        have E2 := Lib.hid e2
        have HB := Lib.hid hb
        have HO := Lib.hid hown
        clear e1 e2 hown hb
        go_wp2_with fail
        go_ret2
        rw [E1.out, E2.out, length_digs]
        exact ⟨A, c, rfl, HO.out, HB.out⟩

/-- n below 0, turned about. -/
def tur (n : Int) : Int := if n < 0 then -(n + 1) else n
theorem tur_nonneg (n : Int) : 0 ≤ tur n := by unfold tur; split <;> omega
theorem sh_neg (n : Int) (k : Nat) : sh (-(n + 1)) k = -(sh n k + 1) := by
  induction k with
  | zero => rfl
  | succ k ih => simp only [sh]; rw [ih]; omega
theorem dig_tur (n : Int) (k : Nat) : sh n k % 256 = if n < 0 then 255 - sh (tur n) k % 256 else sh (tur n) k % 256 := by
  by_cases h : n < 0
  · rw [if_pos h, tur, if_pos h, sh_neg]; omega
  · rw [if_neg h, tur, if_neg h]

set_option maxHeartbeats 400000 in
theorem rsig_any (n : Int) (w : World) (hn1 : -9223372036854775808 ≤ n) (hn2 : n ≤ 9223372036854775807) :
    Calls Tryd.prog 23 #[.int .i64 n] w fun e w' => ∃ A c, e = .returned (.slice A 8 c) ∧
      w'.ownsRow w.heap.size 5 1 (.slice A 8 c) 8 (cel (digs n 8)) ∧ Below w.heap.size w w' := by
  obtain ⟨i0, hi, hz0, hz1, hz2⟩ := info_parts Tryd.info5
  have HT0 := tur_nonneg n
  have HT9 : tur n ≤ 9223372036854775807 := by unfold tur; split <;> omega
  by_cases hneg : n < 0
  · have HT := Lib.hid (show tur n = -(n + 1) by rw [tur, if_pos hneg])
    have HD := Lib.hid (fun k => (dig_tur n k).trans (if_pos hneg))
    go_enter Tryd.func23, Tryd.ntmps23
    go_wp2_with fail
    go_loopw [0, 4, 5] (fun x b i wr => ∃ (j : Nat) (A : Option Addr) (c : Nat), j ≤ 8 ∧ i = .int .i64 j ∧ x = .int .i64 (sh (tur n) j) ∧ b = .slice A j c ∧ wr.ownsRow w.heap.size 5 1 (.slice A j c) j (cel (digs n j)) ∧ Below w.heap.size w wr)
      (fun _ _ i _ => 8 - (intOf i).toNat)
    case atStart => exact ⟨0, none, 0, Nat.zero_le _, rfl, by rw [sh, HT.out], rfl, World.ownsRow_nil _ _ _ _, Below.refl _ _⟩
    case round =>
      obtain ⟨j, A, c, hj, rfl, rfl, rfl, hown, hb⟩ := hrel
      by_cases hlt : j < 8
      · have hs0 := sh_nonneg (tur n) HT0 j
        have hs9 : sh (tur n) j ≤ 9223372036854775807 := Int.le_trans (sh_le (tur n) HT0 j) HT9
        have hx : 0 ≤ 255 - sh (tur n) j % 256 ∧ 255 - sh (tur n) j % 256 < 256 := by omega
        have hone := rd_one wr (255 - sh (tur n) j % 256) hx
        have hown1 := hown.alloc (.cells #[.int .u8 (255 - sh (tur n) j % 256)] 5)
        have hb1 := hb.alloc hb.size (.cells #[.int .u8 (255 - sh (tur n) j % 256)] 5)
        have HR := Lib.hid hone
        have HO := Lib.hid hown1
        have HB := Lib.hid hb1
        clear hone hown1 hb1 hown hb
        go_wp2_with (at_builtin; refine wpList_append_rd _ rfl _ _ 26 rfl w.heap.size 5 i0 Tryd.underlying26 hi hz0 hz1 hz2 _ j (digs n j) rfl HO.out _ 1 1 [255 - sh (tur n) j % 256] rfl HR.out rfl (by omega) HB.out.size ?_)
        intro A' c' w2 hown2 _ hb2 _
        have HB2 := Lib.hid (HB.out.trans hb2)
        have HO2 := Lib.hid hown2
        clear hb2 hown2
        go_wp2_with fail
        go_roundw
        case rel => exact ⟨j + 1, A', c', by omega, by go_num, by rw [sh], rfl, by rw [digs_snoc, HD.out j]; exact HO2.out, HB2.out⟩
        case measure => simp [intOf]; omega
      · obtain rfl : j = 8 := by omega
        have HB := Lib.hid hb
        have HO := Lib.hid hown
        clear hown hb
        go_wp2_with fail
        go_ret
        exact ⟨A, c, rfl, HO.out, HB.out⟩
  · have HT := Lib.hid (show tur n = n by rw [tur, if_neg hneg])
    have HD := Lib.hid (fun k => (dig_tur n k).trans (if_neg hneg))
    go_enter Tryd.func23, Tryd.ntmps23
    go_wp2_with fail
    go_loopw [0, 4, 5] (fun x b i wr => ∃ (j : Nat) (A : Option Addr) (c : Nat), j ≤ 8 ∧ i = .int .i64 j ∧ x = .int .i64 (sh (tur n) j) ∧ b = .slice A j c ∧ wr.ownsRow w.heap.size 5 1 (.slice A j c) j (cel (digs n j)) ∧ Below w.heap.size w wr)
      (fun _ _ i _ => 8 - (intOf i).toNat)
    case atStart => exact ⟨0, none, 0, Nat.zero_le _, rfl, by rw [sh, HT.out], rfl, World.ownsRow_nil _ _ _ _, Below.refl _ _⟩
    case round =>
      obtain ⟨j, A, c, hj, rfl, rfl, rfl, hown, hb⟩ := hrel
      by_cases hlt : j < 8
      · have hs0 := sh_nonneg (tur n) HT0 j
        have hs9 : sh (tur n) j ≤ 9223372036854775807 := Int.le_trans (sh_le (tur n) HT0 j) HT9
        have hx : 0 ≤ sh (tur n) j % 256 ∧ sh (tur n) j % 256 < 256 := by omega
        have hone := rd_one wr (sh (tur n) j % 256) hx
        have hown1 := hown.alloc (.cells #[.int .u8 (sh (tur n) j % 256)] 5)
        have hb1 := hb.alloc hb.size (.cells #[.int .u8 (sh (tur n) j % 256)] 5)
        have HR := Lib.hid hone
        have HO := Lib.hid hown1
        have HB := Lib.hid hb1
        clear hone hown1 hb1 hown hb
        go_wp2_with (at_builtin; refine wpList_append_rd _ rfl _ _ 26 rfl w.heap.size 5 i0 Tryd.underlying26 hi hz0 hz1 hz2 _ j (digs n j) rfl HO.out _ 1 1 [sh (tur n) j % 256] rfl HR.out rfl (by omega) HB.out.size ?_)
        intro A' c' w2 hown2 _ hb2 _
        have HB2 := Lib.hid (HB.out.trans hb2)
        have HO2 := Lib.hid hown2
        clear hb2 hown2
        go_wp2_with fail
        go_roundw
        case rel => exact ⟨j + 1, A', c', by omega, by go_num, by rw [sh], rfl, by rw [digs_snoc, HD.out j]; exact HO2.out, HB2.out⟩
        case measure => simp [intOf]; omega
      · obtain rfl : j = 8 := by omega
        have HB := Lib.hid hb
        have HO := Lib.hid hown
        clear hown hb
        go_wp2_with fail
        go_ret
        exact ⟨A, c, rfl, HO.out, HB.out⟩

end Go.Proofs.YtndgiehipajghaaDoor
