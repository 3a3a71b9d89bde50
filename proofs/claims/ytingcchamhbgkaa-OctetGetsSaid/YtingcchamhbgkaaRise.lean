/-
  The walk of OctetRise: for every width and every two numbers it returns true; nothing that was there has changed.
-/
import Derived.Test.YtingcchamhbgkaaAwake
import Derived.Deep.QuietTactic
import Derived.BigQuiet
namespace Go.Proofs.Ytingcchamhbgkaa
open Go.RowKit

theorem sh_eq (n : Int) (k : Nat) : sh n k = n / p256 k := by
  induction k with
  | zero => simp [sh, p256]
  | succ k ih =>
    have hp := p256_pos k
    rw [sh, ih, p256_succ, Int.mul_comm, ← Int.ediv_ediv_of_nonneg (by omega)]
theorem sh_mono {n m : Int} (h : n ≤ m) (k : Nat) : sh n k ≤ sh m k := by
  induction k with
  | zero => exact h
  | succ k ih => simp only [sh]; omega
theorem sh_top {n : Int} {k : Nat} (h0 : 0 ≤ n) (h : n < p256 k) : sh n k = 0 := by
  rw [sh_eq, Int.ediv_eq_zero_of_lt h0 h]
theorem digs_at (n : Int) (W : Nat) {i : Nat} (h : i < W) : (digs n W)[i]?.getD 0 = sh n i % 256 := by
  induction W generalizing n i with
  | zero => omega
  | succ W ih =>
    cases i with
    | zero => rfl
    | succ i =>
      rw [digs, List.getElem?_cons_succ, ih (n / 256) (by omega), sh_div]
theorem rise_eq {n m : Int} {j : Nat} (h : sh n (j + 1) = sh m (j + 1)) (hd : sh n j % 256 = sh m j % 256) : sh n j = sh m j := by
  simp only [sh] at h; omega
theorem rise_ne {n m : Int} {j : Nat} (h : sh n (j + 1) = sh m (j + 1)) (hd : sh n j % 256 ≠ sh m j % 256) : (decide (sh n j % 256 < sh m j % 256) == decide (n < m)) = true := by
  simp only [sh] at h
  by_cases hlt : sh n j % 256 < sh m j % 256
  · have h1 : n < m := by
      rcases Int.lt_or_le n m with h2 | h2
      · exact h2
      · have := sh_mono h2 j; omega
    simp [hlt, h1]
  · have h1 : ¬ n < m := by
      intro h2
      have := sh_mono (Int.le_of_lt h2) j
      omega
    simp [hlt, h1]

theorem Rd.drewN {w : World} {A : Option Addr} {c : Nat} {l : List Int} (h : Rd w A c l) (q : Nat) : Rd (w.drewN q) A c l := h
theorem below_draws {B : Nat} {a w : World} (h : Below B a w) (q : Nat) : Below B a (w.drewN q) := ⟨h.os, h.tape, h.output, h.size, h.block⟩
theorem put_inv {W n : Int} (h : putE W n = 0) : ∃ k : Nat, W = k ∧ 1 ≤ k ∧ k ≤ 8 ∧ 0 ≤ n ∧ n < p256 k ∧ putL W n = digs n k := by
  have h' := h
  unfold putE at h
  split at h
  · simp at h
  · split at h
    · simp at h
    · rename_i h1 h2
      obtain ⟨k, rfl⟩ : ∃ k : Nat, W = k := ⟨W.toNat, by omega⟩
      rw [Int.toNat_natCast] at h2
      exact ⟨k, rfl, by omega, by omega, by omega, by omega, by rw [putL, if_pos h', Int.toNat_natCast]⟩

set_option maxHeartbeats 1000000 in
theorem rise_walk (W n m : Int) (w : World) : Calls Try.prog 8 #[.int .i64 W, .int .i64 n, .int .i64 m] w fun e w' => e = .returned (.bool true) ∧ Below w.heap.size w w' := by
  go_enter Try.func8, Try.ntmps8
  go_wp2_with fail
  refine (awake_any _).mono ?_
  rintro e w1 ⟨rfl, hb1⟩
  go_wp2_with fail
  refine (put_any W n _).mono ?_
  rintro e w2 ⟨A2, c2, rfl, ho2, hb2⟩
  have hb12 := hb1.trans (hb2.mono hb1.size)
  go_wp2_with fail
  refine (put_any W m _).mono ?_
  rintro e w3 ⟨A3, c3, rfl, ho3, hb3⟩
  have hb := hb12.trans (hb3.mono hb12.size)
  have HO2 := Lib.hid (own_below ho2 hb3 (Nat.le_refl _))
  have HO3 := Lib.hid ho3
  have HB := Lib.hid hb
  clear hb1 hb2 ho2 hb12 hb3 ho3 hb
  by_cases h1 : putE W n = 0
  · by_cases h2 : putE W m = 0
    · obtain ⟨k, rfl, hk1, hk8, hn0, hn, en⟩ := put_inv h1
      obtain ⟨k', hk, _, _, hm0, hm, em⟩ := put_inv h2
      obtain rfl : k = k' := by omega
      rw [en] at HO2
      rw [em] at HO3
      rw [h1, h2, en, em, length_digs, length_digs]
      rw [length_digs] at HO2 HO3
      have hr2 := own_rd HO2.out (byt_digs _ _)
      have hr3 := own_rd HO3.out (byt_digs _ _)
      have HT : Hid (sh n k = sh m k) := by rw [Hid, sh_top hn0 hn, sh_top hm0 hm]
      clear en em h1 h2 HO2 HO3 hn0 hm0 hn hm hk
      have HR2 := Lib.hid hr2
      have HR3 := Lib.hid hr3
      clear hr2 hr3
      go_wp2_with fail
      go_loopw [11] (fun i wr => ∃ j : Nat, j ≤ k ∧ i = .int .i64 ((j : Int) - 1) ∧ Hid (sh n j = sh m j) ∧ Hid (Rd wr A2 c2 (digs n k)) ∧ Hid (Rd wr A3 c3 (digs m k)) ∧ Hid (Below w.heap.size w wr))
        (fun i _ => (intOf i + 1).toNat)
      case atStart => exact ⟨k, Nat.le_refl _, rfl, HT, HR2, HR3, HB⟩
      case round =>
        obtain ⟨j, hj, rfl, HT, HR2, HR3, HB⟩ := hrel
        by_cases hj1 : 1 ≤ j
        · obtain ⟨i, rfl⟩ : ∃ i, j = i + 1 := ⟨j - 1, by omega⟩
          obtain ⟨a2, rfl, hc2⟩ := HR2.out.at_ (i := i) (by rw [length_digs]; omega)
          obtain ⟨a3, rfl, hc3⟩ := HR3.out.at_ (i := i) (by rw [length_digs]; omega)
          rw [digs_at n k (by omega)] at hc2
          rw [digs_at m k (by omega)] at hc3
          obtain ⟨x, hx⟩ : ∃ x, x = sh n i % 256 := ⟨_, rfl⟩
          obtain ⟨y, hy⟩ : ∃ y, y = sh m i % 256 := ⟨_, rfl⟩
          rw [← hx] at hc2
          rw [← hy] at hc3
          have HX := Lib.hid hx
          have HY := Lib.hid hy
          clear hx hy
          have e : ((i + 1 : Nat) : Int) - 1 = (i : Int) := by omega
          rw [e]
          clear e
          by_cases hxy : x = y
          · have hne : (x != y) = false := by simpa using hxy
            have HXY := Lib.hid hxy
            clear hxy
            go_wp2_with fail
            go_quiet (fail)
            go_wp2
            go_roundw
            case rel => exact ⟨i, by omega, rfl, rise_eq HT.out (by rw [← HX.out, ← HY.out]; exact HXY.out), Rd.drewN HR2.out _, Rd.drewN HR3.out _, below_draws HB.out _⟩
            case measure => simp [intOf]
          · have hne : (x != y) = true := by simpa using hxy
            have HXY := Lib.hid hxy
            clear hxy
            go_wp2_with fail
            go_quiet (fail)
            go_wp2
            go_quiet (fail)
            go_wp2
            go_ret
            have hp : (decide (x < y) == decide (n < m)) = true := by
              rw [HX.out, HY.out]
              exact rise_ne HT.out (by rw [← HX.out, ← HY.out]; exact HXY.out)
            exact ⟨congrArg (fun b => Ending.returned (.bool b)) hp, below_draws (below_draws HB.out _) _⟩
        · obtain rfl : j = 0 := by omega
          go_wp2
          go_ret
          have e : n = m := HT.out
          exact ⟨by subst e; simp, HB.out⟩
    · have h1' : (putE W n != 0) = false := by simpa using h1
      have h2' : (putE W m != 0) = true := by simpa using h2
      clear h1 h2
      go_wp2_with fail
      go_ret
      exact ⟨rfl, HB.out⟩
  · have h1' : (putE W n != 0) = true := by simpa using h1
    clear h1
    go_wp2_with fail
    go_ret
    exact ⟨rfl, HB.out⟩
end Go.Proofs.Ytingcchamhbgkaa
