/-
  What the document's own answers of layer 1 that read bytes are (Get, GetSigned, GetRow of capstanref01): the same functions of the arguments as the program's; nothing that was there has changed.
-/
import Derived.Test.YtndgiehipajghaaDoorRef
import Derived.Test.YtndgiehipajghaaDoorAgain
namespace Go.Proofs.YtndgiehipajghaaDoor
open Go.RowKit

set_option maxHeartbeats 1000000 in
theorem rget_any (A : Option Addr) (c : Nat) (l : List Int) (p W : Int) (w : World) (hr : Rd w A c l) (hl : l.length ≤ 2000) :
    Calls Tryd.prog 29 #[.slice A l.length c, .int .i64 p, .int .i64 W] w fun e w' => e = .returned (.tuple #[.int .i64 (getV l p W), .int .i64 (getN l p W), .int .i64 (getE l p W)]) ∧ w = w' := by
  have hlen := hr.len
  have bad : getE l p W ≠ 0 → getV l p W = 0 ∧ getN l p W = 0 := fun h => ⟨by rw [getV, if_neg h], by rw [getN, if_neg h]⟩
  by_cases h2 : getE l p W = 2
  · obtain ⟨e1, e2⟩ := bad (by rw [h2]; decide)
    have hW : W < 1 ∨ 8 < W ∨ p < 0 ∨ (l.length : Int) < p := by
      by_cases hW : W < 1 ∨ 8 < W
      · omega
      · rw [get_eq (by omega)] at h2
        by_cases h3 : p < 0 ∨ (l.length : Int) < p
        · omega
        · by_cases h4 : (l.length : Int) - p < W
          · rw [(cut_short (by omega) (by omega) h4).1] at h2; simp at h2
          · rw [(cut_yes (by omega) (by omega) (by omega)).1, if_pos rfl] at h2
            split at h2 <;> simp at h2
    rw [h2, e1, e2]
    clear h2 e1 e2 bad
    by_cases g1 : W < 1
    · clear hW
      go_enter Tryd.func29, Tryd.ntmps29
      go_wp2_with fail
      go_ret3
      exact ⟨rfl, rfl⟩
    by_cases g2 : 8 < W
    · clear hW
      go_enter Tryd.func29, Tryd.ntmps29
      go_wp2_with fail
      go_ret3
      exact ⟨rfl, rfl⟩
    by_cases g3 : p < 0
    · clear hW
      go_enter Tryd.func29, Tryd.ntmps29
      go_wp2_with fail
      go_ret3
      exact ⟨rfl, rfl⟩
    · have g4 : (l.length : Int) < p := by omega
      clear hW
      go_enter Tryd.func29, Tryd.ntmps29
      go_wp2_with fail
      go_ret3
      exact ⟨rfl, rfl⟩
  have hW : 1 ≤ W ∧ W ≤ 8 := by
    by_cases hW : W < 1 ∨ 8 < W
    · exact absurd (get_bad hW) h2
    · omega
  have hp : 0 ≤ p ∧ p ≤ l.length := by
    by_cases h3 : p < 0 ∨ (l.length : Int) < p
    · rw [get_eq hW, (cut_arg h3).1] at h2; simp at h2
    · omega
  clear h2
  by_cases h4 : (l.length : Int) - p < W
  · have h5 := get_short hW hp.1 hp.2 h4
    obtain ⟨e1, e2⟩ := bad (by rw [h5]; decide)
    rw [h5, e1, e2]
    clear h5 e1 e2 bad
    go_enter Tryd.func29, Tryd.ntmps29
    go_wp2_with fail
    go_ret3
    exact ⟨rfl, rfl⟩
  obtain ⟨a, rfl⟩ : ∃ a : Nat, p = a := ⟨p.toNat, by omega⟩
  obtain ⟨k, rfl⟩ : ∃ k : Nat, W = k := ⟨W.toNat, by omega⟩
  obtain ⟨c1, c2, c3⟩ := cut_yes (l := l) (p := a) (n := k) (by omega) (by omega) (by omega)
  rw [Int.toNat_natCast, Int.toNat_natCast] at c2
  have hbP : Byt ((l.drop a).take k) := byt_take (byt_drop hr.byt _) _
  have hlP : ((l.drop a).take k).length = k := by simp; omega
  by_cases hbig : 9223372036854775807 < num ((l.drop a).take k)
  · have hk : k = 8 := by
      by_cases h7 : k ≤ 7
      · have := num_low hbP (by omega); omega
      · omega
    subst hk
    have htop := (num_top hbP hlP).1 hbig
    rw [part_at _ _ _ _ (by omega)] at htop
    have h5 := get_big hW (p := a) (l := l) (W := (8 : Nat)) (by rw [c2]; exact hbig)
    obtain ⟨e1, e2⟩ := bad (by rw [h5]; decide)
    rw [h5, e1, e2]
    obtain ⟨ad, rfl, hcell⟩ := hr.at_ (i := a + 7) (by omega)
    have hc7 : w.cell? ⟨ad.block, ad.off + (a + 6 + 1), none⟩ = some (.int .u8 (l[a + 7]?.getD 0)) := by rw [← add_succ]; exact hcell
    clear hcell
    clear h5 e1 e2 bad c1 c2 c3 hlP hbig hbP
    have e8 : ((8 : Nat) : Int) = 8 := rfl
    rw [e8]
    clear e8
    go_enter Tryd.func29, Tryd.ntmps29
    go_wp2_with fail
    go_ret3
    exact ⟨rfl, rfl⟩
  · have hq := Int.not_lt.1 hbig
    obtain ⟨v1, v2, v3⟩ := get_ok (l := l) (p := a) (W := k) hW hp.1 hp.2 (by omega) (by rw [Int.toNat_natCast, Int.toNat_natCast]; exact hq)
    rw [Int.toNat_natCast, Int.toNat_natCast] at v2
    have GE := Lib.hid v1
    have GV := Lib.hid v2
    have GN := Lib.hid v3
    clear v1 v2 v3 c1 c2 c3 bad hbig
    by_cases hk : k = 8
    · subst hk
      have htop : ¬ (127 : Int) < l[a + 7]?.getD 0 := by
        have := mt (num_top hbP hlP).2 (Int.not_lt.2 hq)
        rwa [part_at _ _ _ _ (by omega)] at this
      obtain ⟨ad7, hA, hcell7⟩ := hr.at_ (i := a + 7) (by omega)
      subst hA
      have hc7 : w.cell? ⟨ad7.block, ad7.off + (a + 6 + 1), none⟩ = some (.int .u8 (l[a + 7]?.getD 0)) := by rw [← add_succ]; exact hcell7
      clear hcell7
      have e8 : ((8 : Nat) : Int) = 8 := rfl
      rw [e8]
      rw [e8] at GE GV GN
      clear e8
      go_enter Tryd.func29, Tryd.ntmps29
      go_wp2_with fail
      go_loop [9, 10] (fun n i => ∃ j : Nat, j ≤ 8 ∧ i = .int .i64 ((j : Int) - 1) ∧ n = .int .i64 (num (((l.drop a).take 8).drop j))) (fun _ i => (intOf i + 1).toNat)
      case atStart => exact ⟨8, Nat.le_refl _, rfl, by rw [List.drop_of_length_le (by omega)]; rfl⟩
      case round =>
        obtain ⟨j, hj, rfl, rfl⟩ := hrel
        by_cases hj1 : 1 ≤ j
        · obtain ⟨i, rfl⟩ : ∃ i, j = i + 1 := ⟨j - 1, by omega⟩
          obtain ⟨ad, hA, hcell⟩ := hr.at_ (i := a + i) (by omega)
          obtain rfl : ad7 = ad := by injection hA
          have hb := hr.byte (a + i)
          have hpre := num_pre (l := (l.drop a).take 8) (k := i + 1) (by omega) (by omega)
          rw [Nat.add_sub_cancel, part_at _ _ _ _ (by omega)] at hpre
          have hq1 := num_drop_le hbP i
          have hq2 := num_nonneg (byt_drop hbP (i + 1))
          have hq3 : 256 * num (((l.drop a).take 8).drop (i + 1)) + l[a + i]?.getD 0 ≤ 9223372036854775807 := by omega
          have hq4 : num (((l.drop a).take 8).drop (i + 1)) ≤ 36028797018963967 := by omega
          have HP := Lib.hid hpre
          clear hpre hq1
          have e : ((i + 1 : Nat) : Int) - 1 = (i : Int) := by omega
          rw [e]
          clear e
          go_wp2_with fail
          go_round
          case rel =>
            exact ⟨i, by omega, rfl, by rw [HP.out, Int.add_comm]⟩
          case measure => simp [intOf]
        · obtain rfl : j = 0 := by omega
          go_wp2_with fail
          go_ret3
          rw [GV.out, GN.out, GE.out]
          exact ⟨rfl, rfl⟩
    · have hk8 : ((k : Int) == 8) = false := by simp; omega
      go_enter Tryd.func29, Tryd.ntmps29
      go_wp2_with fail
      go_loop [9, 10] (fun n i => ∃ j : Nat, j ≤ k ∧ i = .int .i64 ((j : Int) - 1) ∧ n = .int .i64 (num (((l.drop a).take k).drop j))) (fun _ i => (intOf i + 1).toNat)
      case atStart => exact ⟨k, Nat.le_refl _, rfl, by rw [List.drop_of_length_le (by omega)]; rfl⟩
      case round =>
        obtain ⟨j, hj, rfl, rfl⟩ := hrel
        by_cases hj1 : 1 ≤ j
        · obtain ⟨i, rfl⟩ : ∃ i, j = i + 1 := ⟨j - 1, by omega⟩
          obtain ⟨ad, rfl, hcell⟩ := hr.at_ (i := a + i) (by omega)
          have hb := hr.byte (a + i)
          have hpre := num_pre (l := (l.drop a).take k) (k := i + 1) (by omega) (by omega)
          rw [Nat.add_sub_cancel, part_at _ _ _ _ (by omega)] at hpre
          have hq1 := num_drop_le hbP i
          have hq2 := num_nonneg (byt_drop hbP (i + 1))
          have hq3 : 256 * num (((l.drop a).take k).drop (i + 1)) + l[a + i]?.getD 0 ≤ 9223372036854775807 := by omega
          have hq4 : num (((l.drop a).take k).drop (i + 1)) ≤ 36028797018963967 := by omega
          have HP := Lib.hid hpre
          clear hpre hq1
          have e : ((i + 1 : Nat) : Int) - 1 = (i : Int) := by omega
          rw [e]
          clear e
          go_wp2_with fail
          go_round
          case rel =>
            exact ⟨i, by omega, rfl, by rw [HP.out, Int.add_comm]⟩
          case measure => simp [intOf]
        · obtain rfl : j = 0 := by omega
          go_wp2_with fail
          go_ret3
          rw [GV.out, GN.out, GE.out]
          exact ⟨rfl, rfl⟩
end Go.Proofs.YtndgiehipajghaaDoor
