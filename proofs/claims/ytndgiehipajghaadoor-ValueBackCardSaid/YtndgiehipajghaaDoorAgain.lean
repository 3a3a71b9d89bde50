/-
  The walk of OctetAgain: what is got, put again, is those bytes; for every argument the call returns true; nothing that was there has changed.
-/
import Derived.Test.YtndgiehipajghaaDoorBack
namespace Go.Proofs.YtndgiehipajghaaDoor
open Go.RowKit

theorem get_inv {l : List Int} {p W : Int} (hb : Byt l) (h : getE l p W = 0) : ∃ a k : Nat, p = a ∧ W = k ∧ 1 ≤ k ∧ k ≤ 8 ∧ a + k ≤ l.length ∧ getN l p W = a + k ∧ putE W (getV l p W) = 0 ∧ putL W (getV l p W) = (l.drop a).take k := by
  have hW : 1 ≤ W ∧ W ≤ 8 := by
    by_cases hW : W < 1 ∨ 8 < W
    · rw [get_bad hW] at h; simp at h
    · omega
  have hc : cutE l p W = 0 := by
    rw [get_eq hW] at h
    by_cases hc : cutE l p W = 0
    · exact hc
    · rw [if_neg hc] at h; exact absurd h hc
  have hp : 0 ≤ p ∧ p ≤ l.length ∧ W ≤ l.length - p := by
    by_cases h1 : p < 0 ∨ l.length < p
    · rw [(cut_arg h1).1] at hc; simp at hc
    · by_cases h2 : l.length - p < W
      · rw [(cut_short (by omega) (by omega) h2).1] at hc; simp at hc
      · omega
  obtain ⟨a, rfl⟩ : ∃ a : Nat, p = a := ⟨p.toNat, by omega⟩
  obtain ⟨k, rfl⟩ : ∃ k : Nat, W = k := ⟨W.toNat, by omega⟩
  have hL : cutL l a k = (l.drop a).take k := by rw [cutL, if_pos hc, Int.toNat_natCast, Int.toNat_natCast]
  have hlen : (cutL l a k).length = k := by rw [hL]; simp; omega
  have hbc := byt_cut hb a k
  have hV : getV l a k = num (cutL l a k) := by rw [getV, if_pos h]
  have h0 := num_nonneg hbc
  have hlt := num_lt hbc
  rw [hlen] at hlt
  obtain ⟨e1, e2⟩ := put_yes (n := getV l a k) (k := k) (by omega) (by omega) (by rw [hV]; exact h0) (by rw [hV]; exact hlt)
  refine ⟨a, k, rfl, rfl, by omega, by omega, by omega, by rw [getN, if_pos h], e1, ?_⟩
  have := digs_num hbc
  rw [hlen] at this
  rw [e2, hV, this, hL]

theorem sig_inv {l : List Int} {p : Int} (hb : Byt l) (h : cutE l p 8 = 0) : ∃ a : Nat, p = a ∧ a + 8 ≤ l.length ∧ cutN l p 8 = a + 8 ∧ digs (sigV l p) 8 = (l.drop a).take 8 := by
  have hp := cutE_inv h
  obtain ⟨a, rfl⟩ : ∃ a : Nat, p = a := ⟨p.toNat, by omega⟩
  have hL : cutL l a 8 = (l.drop a).take 8 := by rw [cutL, if_pos h, Int.toNat_natCast]; rfl
  have hlen : (cutL l a 8).length = 8 := by rw [hL]; simp; omega
  refine ⟨a, rfl, by omega, by rw [cutN, if_pos h], ?_⟩
  have hd := digs_num (byt_cut hb a 8)
  rw [hlen] at hd
  rw [← hL, sigV]
  refine Eq.trans (digs_congr ?_) hd
  rw [p256_8]
  unfold wrap64
  omega

theorem row_inv {l : List Int} {p : Int} (hb : Byt l) (h : grE l p = 0) :
    ∃ a m : Nat, p = a ∧ a + (2 + m) ≤ l.length ∧ (grL l p).length = m ∧ m ≤ 65535 ∧ grN l p = a + 2 + m ∧ rowL (grL l p) = (l.drop a).take (2 + m) := by
  have hg : getE l p 2 = 0 := by
    by_cases hg : getE l p 2 = 0
    · exact hg
    · rw [grE, if_neg hg] at h; exact absurd h hg
  have hc : cutE l (p + 2) (getV l p 2) = 0 := by rw [grE, if_pos hg] at h; exact h
  have hv2 := getV_2 hb p
  have hv0 : 0 ≤ getV l p 2 := by rw [getV, if_pos hg]; exact num_nonneg (byt_cut hb _ _)
  obtain ⟨a, k, rfl, hk, _, _, hak, _, _, hPL⟩ := get_inv hb hg
  obtain rfl : k = 2 := by omega
  obtain ⟨m, hm⟩ : ∃ m : Nat, getV l a 2 = m := ⟨(getV l a 2).toNat, by omega⟩
  have hi := cutE_inv hc
  rw [hm] at hi hc hv2
  have hL : grL l a = (l.drop (a + 2)).take m := by
    rw [grL, if_pos h, hm, cutL, if_pos hc, Int.toNat_natCast]
    congr 2
  have hlen : (grL l a).length = m := by rw [hL]; simp; omega
  refine ⟨a, m, rfl, by omega, hlen, by omega, by rw [grN, if_pos h, hm], ?_⟩
  have hd : digs m 2 = (l.drop a).take 2 := by
    have h2 := hPL
    rw [hm, putL, if_pos (by unfold putE; rw [if_neg (by omega)]; rw [show (2 : Int).toNat = 2 from rfl, p256_2, if_neg (by omega)])] at h2
    exact h2
  rw [rowL, if_neg (by omega), hlen, hd, hL, List.take_add, List.drop_drop]

set_option linter.unusedSimpArgs false
end Go.Proofs.YtndgiehipajghaaDoor
