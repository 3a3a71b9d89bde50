/-
  What the document's own answer GetSigned of layer 1 is: the same function of the arguments as the program's; nothing that was there has changed.
-/
import Derived.Test.YtndgiehipajghaaDoorRefGet
namespace Go.Proofs.YtndgiehipajghaaDoor
open Go.RowKit

/-- Each byte turned about. -/
def cmp (l : List Int) : List Int := l.map (255 - ·)
theorem length_cmp (l : List Int) : (cmp l).length = l.length := by simp [cmp]
theorem byt_cmp {l : List Int} (h : Byt l) : Byt (cmp l) := by
  intro x hx
  obtain ⟨y, hy, rfl⟩ := List.mem_map.1 hx
  have := h y hy
  omega
theorem cmp_at {l : List Int} {i : Nat} (h : i < l.length) : (cmp l)[i]?.getD 0 = 255 - l[i]?.getD 0 := by
  simp [cmp, List.getElem?_eq_getElem h]
theorem num_cmp (l : List Int) : num (cmp l) = p256 l.length - 1 - num l := by
  induction l with
  | nil => simp [cmp, num, p256]
  | cons b l ih =>
    simp only [cmp, List.map_cons, num, List.length_cons] at ih ⊢
    rw [ih, p256_succ]
    omega
theorem sig_high {m : List Int} (h8 : m.length = 8) (hb : Byt m) (h : 9223372036854775807 < num m) : wrap64 (num m) = -num (cmp m) - 1 ∧ num (cmp m) ≤ 9223372036854775807 := by
  have h1 := num_lt hb
  have h2 := num_cmp m
  rw [h8, p256_8] at h1 h2
  unfold wrap64
  omega
theorem sig_low {m : List Int} (hb : Byt m) (h : num m ≤ 9223372036854775807) : wrap64 (num m) = num m := by
  have h1 := num_nonneg hb
  unfold wrap64
  omega

set_option maxHeartbeats 1000000 in
theorem rgsig_any (A : Option Addr) (c : Nat) (l : List Int) (p : Int) (w : World) (hr : Rd w A c l) (hl : l.length ≤ 2000) :
    Calls Tryd.prog 28 #[.slice A l.length c, .int .i64 p] w fun e w' => e = .returned (.tuple #[.int .i64 (sigV l p), .int .i64 (cutN l p 8), .int .i64 (cutE l p 8)]) ∧ w = w' := by
  have hlen := hr.len
  have bad : cutE l p 8 ≠ 0 → sigV l p = 0 ∧ cutN l p 8 = 0 := fun h => ⟨by rw [sigV, cutL, if_neg h]; simp [num, wrap64], by rw [cutN, if_neg h]⟩
  by_cases g3 : p < 0
  · have h2 := (cut_arg (l := l) (n := 8) (.inl g3)).1
    obtain ⟨e1, e2⟩ := bad (by rw [h2]; decide)
    rw [h2, e1, e2]
    clear h2 e1 e2 bad
    go_enter Tryd.func28, Tryd.ntmps28
    go_wp2_with fail
    go_ret3
    exact ⟨rfl, rfl⟩
  by_cases g4 : (l.length : Int) < p
  · have h2 := (cut_arg (l := l) (n := 8) (.inr g4)).1
    obtain ⟨e1, e2⟩ := bad (by rw [h2]; decide)
    rw [h2, e1, e2]
    clear h2 e1 e2 bad
    go_enter Tryd.func28, Tryd.ntmps28
    go_wp2_with fail
    go_ret3
    exact ⟨rfl, rfl⟩
  by_cases h4 : (l.length : Int) - p < 8
  · have h2 := (cut_short (by omega) (by omega) h4).1
    obtain ⟨e1, e2⟩ := bad (by rw [h2]; decide)
    rw [h2, e1, e2]
    clear h2 e1 e2 bad
    go_enter Tryd.func28, Tryd.ntmps28
    go_wp2_with fail
    go_ret3
    exact ⟨rfl, rfl⟩
  obtain ⟨a, rfl⟩ : ∃ a : Nat, p = a := ⟨p.toNat, by omega⟩
  obtain ⟨c1, c2, c3⟩ := cut_yes (l := l) (p := a) (n := 8) (by omega) (by omega) (by omega)
  rw [Int.toNat_natCast, show (8 : Int).toNat = 8 from rfl] at c2
  have hbP : Byt ((l.drop a).take 8) := byt_take (byt_drop hr.byt _) _
  have hlP : ((l.drop a).take 8).length = 8 := by simp; omega
  have hV : sigV l a = wrap64 (num ((l.drop a).take 8)) := by rw [sigV, c2]
  have hat : ∀ i, i < 8 → ((l.drop a).take 8)[i]?.getD 0 = l[a + i]?.getD 0 := fun i hi => part_at l a 8 i hi
  have htop := num_top hbP hlP
  rw [hat 7 (by omega)] at htop
  rw [c1, c3, hV]
  clear c1 c2 c3 hV bad
  generalize hP : (l.drop a).take 8 = P at *
  clear hP
  obtain ⟨ad, rfl, hcell7⟩ := hr.at_ (i := a + 7) (by omega)
  have hc7 : w.cell? ⟨ad.block, ad.off + (a + 6 + 1), none⟩ = some (.int .u8 (l[a + 7]?.getD 0)) := by rw [← add_succ]; exact hcell7
  clear hcell7
  have HAT := Lib.hid hat
  have HLP := Lib.hid hlP
  clear hat hlP
  by_cases hbig : 9223372036854775807 < num P
  · obtain ⟨e1, e2⟩ := sig_high HLP.out hbP hbig
    have hd : decide ((127 : Int) < l[a + 7]?.getD 0) = true := by simpa using htop.1 hbig
    have E1 := Lib.hid e1
    clear e1 hbig htop
    go_enter Tryd.func28, Tryd.ntmps28
    go_wp2_with fail
    go_loop [8, 9] (fun n i => ∃ j : Nat, j ≤ 8 ∧ i = .int .i64 ((j : Int) - 1) ∧ n = .int .i64 (num ((cmp P).drop j))) (fun _ i => (intOf i + 1).toNat)
    case atStart => exact ⟨8, Nat.le_refl _, rfl, by rw [List.drop_of_length_le (by rw [length_cmp, HLP.out]; exact Nat.le_refl _)]; rfl⟩
    case round =>
      obtain ⟨j, hj, rfl, rfl⟩ := hrel
      by_cases hj1 : 1 ≤ j
      · obtain ⟨i, rfl⟩ : ∃ i, j = i + 1 := ⟨j - 1, by omega⟩
        obtain ⟨ad', hA, hcell⟩ := hr.at_ (i := a + i) (by omega)
        obtain rfl : ad = ad' := by injection hA
        have hb := hr.byte (a + i)
        have hpre := num_pre (l := cmp P) (k := i + 1) (by omega) (by rw [length_cmp, HLP.out]; omega)
        rw [Nat.add_sub_cancel, cmp_at (by rw [HLP.out]; omega), HAT.out i (by omega)] at hpre
        have hq1 := num_drop_le (byt_cmp hbP) i
        have hq2 := num_nonneg (byt_drop (byt_cmp hbP) (i + 1))
        have hq3 : 256 * num ((cmp P).drop (i + 1)) + (255 - l[a + i]?.getD 0) ≤ 9223372036854775807 := by omega
        have hq4 : num ((cmp P).drop (i + 1)) ≤ 36028797018963967 := by omega
        have HP := Lib.hid hpre
        clear hpre hq1 hA
        have e : ((i + 1 : Nat) : Int) - 1 = (i : Int) := by omega
        rw [e]
        clear e
        go_wp2_with fail
        go_round
        case rel => exact ⟨i, by omega, rfl, by rw [HP.out, Int.add_comm]⟩
        case measure => simp [intOf]
      · obtain rfl : j = 0 := by omega
        have hq0 := num_nonneg (byt_cmp hbP)
        rw [List.drop_zero]
        go_wp2_with fail
        go_ret3
        rw [E1.out]
        exact ⟨rfl, rfl⟩
  · have hq := Int.not_lt.1 hbig
    have e1 := sig_low hbP hq
    have hd : decide ((127 : Int) < l[a + 7]?.getD 0) = false := by simpa using mt htop.2 hbig
    have E1 := Lib.hid e1
    clear e1 hbig htop
    go_enter Tryd.func28, Tryd.ntmps28
    go_wp2_with fail
    go_loop [8, 9] (fun n i => ∃ j : Nat, j ≤ 8 ∧ i = .int .i64 ((j : Int) - 1) ∧ n = .int .i64 (num ((P).drop j))) (fun _ i => (intOf i + 1).toNat)
    case atStart => exact ⟨8, Nat.le_refl _, rfl, by rw [List.drop_of_length_le (by rw [HLP.out]; exact Nat.le_refl _)]; rfl⟩
    case round =>
      obtain ⟨j, hj, rfl, rfl⟩ := hrel
      by_cases hj1 : 1 ≤ j
      · obtain ⟨i, rfl⟩ : ∃ i, j = i + 1 := ⟨j - 1, by omega⟩
        obtain ⟨ad', hA, hcell⟩ := hr.at_ (i := a + i) (by omega)
        obtain rfl : ad = ad' := by injection hA
        have hb := hr.byte (a + i)
        have hpre := num_pre (l := P) (k := i + 1) (by omega) (by rw [HLP.out]; omega)
        rw [Nat.add_sub_cancel, HAT.out i (by omega)] at hpre
        have hq1 := num_drop_le hbP i
        have hq2 := num_nonneg (byt_drop hbP (i + 1))
        have hq3 : 256 * num ((P).drop (i + 1)) + (l[a + i]?.getD 0) ≤ 9223372036854775807 := by omega
        have hq4 : num ((P).drop (i + 1)) ≤ 36028797018963967 := by omega
        have HP := Lib.hid hpre
        clear hpre hq1 hA
        have e : ((i + 1 : Nat) : Int) - 1 = (i : Int) := by omega
        rw [e]
        clear e
        go_wp2_with fail
        go_round
        case rel => exact ⟨i, by omega, rfl, by rw [HP.out, Int.add_comm]⟩
        case measure => simp [intOf]
      · obtain rfl : j = 0 := by omega
        have hq0 := num_nonneg hbP
        rw [List.drop_zero]
        go_wp2_with fail
        go_ret3
        rw [E1.out]
        exact ⟨rfl, rfl⟩
end Go.Proofs.YtndgiehipajghaaDoor
