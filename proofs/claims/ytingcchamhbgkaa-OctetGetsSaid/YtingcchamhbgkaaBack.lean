/-
  The walk of OctetBack: what was put is got, wherever it stands; for every argument the call returns true; nothing that was there has changed.
-/
import Derived.Test.YtingcchamhbgkaaFew
namespace Go.Proofs.Ytingcchamhbgkaa
open Go.RowKit

theorem mid (l1 m l3 : List Int) : ((l1 ++ (m ++ l3)).drop (l1.length : Int).toNat).take (m.length : Int).toNat = m := by
  rw [Int.toNat_natCast, Int.toNat_natCast, List.drop_left, List.take_left]
theorem cut_mid (l1 m l3 : List Int) : cutE (l1 ++ (m ++ l3)) l1.length m.length = 0 ∧ cutL (l1 ++ (m ++ l3)) l1.length m.length = m ∧ cutN (l1 ++ (m ++ l3)) l1.length m.length = l1.length + m.length := by
  have h := cut_yes (l := l1 ++ (m ++ l3)) (p := l1.length) (n := m.length) (by omega) (by simp; omega) (by simp; omega)
  rw [mid] at h
  exact h
theorem get_mid {l1 m l3 : List Int} (h : 1 ≤ m.length ∧ m.length ≤ 8) (hb : num m ≤ 9223372036854775807) :
    getE (l1 ++ (m ++ l3)) l1.length m.length = 0 ∧ getV (l1 ++ (m ++ l3)) l1.length m.length = num m ∧ getN (l1 ++ (m ++ l3)) l1.length m.length = l1.length + m.length := by
  have h1 := get_ok (l := l1 ++ (m ++ l3)) (p := l1.length) (W := m.length) (by omega) (by omega) (by simp; omega) (by simp; omega) (by rw [mid]; exact hb)
  rw [mid] at h1
  exact h1
theorem get_back {n : Int} {k : Nat} (l1 l3 : List Int) (h1 : 1 ≤ k) (h8 : k ≤ 8) (h0 : 0 ≤ n) (hn : n < p256 k) (hm : n ≤ 9223372036854775807) :
    getE (l1 ++ (digs n k ++ l3)) l1.length k = 0 ∧ getV (l1 ++ (digs n k ++ l3)) l1.length k = n ∧ getN (l1 ++ (digs n k ++ l3)) l1.length k = l1.length + k := by
  have e : num (digs n k) = n := by rw [num_digs, Int.emod_eq_of_lt h0 hn]
  have h := get_mid (l1 := l1) (m := digs n k) (l3 := l3) (by rw [length_digs]; omega) (by rw [e]; exact hm)
  rw [e, length_digs] at h
  exact h
theorem sig_back {s : Int} (l1 l3 : List Int) (h1 : -9223372036854775808 ≤ s) (h2 : s ≤ 9223372036854775807) :
    cutE (l1 ++ (digs s 8 ++ l3)) l1.length 8 = 0 ∧ sigV (l1 ++ (digs s 8 ++ l3)) l1.length = s ∧ cutN (l1 ++ (digs s 8 ++ l3)) l1.length 8 = l1.length + 8 := by
  have h := cut_mid l1 (digs s 8) l3
  rw [length_digs] at h
  refine ⟨h.1, ?_, h.2.2⟩
  have h3 : cutL (l1 ++ (digs s 8 ++ l3)) l1.length 8 = digs s 8 := h.2.1
  rw [sigV, h3, num_digs, p256_8]
  unfold wrap64
  omega
theorem row_back (l1 l l3 : List Int) (hl : l.length ≤ 65535) :
    grE (l1 ++ ((digs l.length 2 ++ l) ++ l3)) l1.length = 0 ∧ grL (l1 ++ ((digs l.length 2 ++ l) ++ l3)) l1.length = l ∧ grN (l1 ++ ((digs l.length 2 ++ l) ++ l3)) l1.length = l1.length + 2 + l.length := by
  have h := get_back (n := l.length) (k := 2) l1 (l ++ l3) (by omega) (by omega) (by omega) (by rw [p256_2]; omega) (by omega)
  rw [← List.append_assoc (digs l.length 2) l l3] at h
  obtain ⟨h1, h2, h3⟩ := h
  have hc := cut_mid (l1 ++ digs l.length 2) l l3
  have e1 : (l1 ++ digs (l.length : Int) 2) ++ (l ++ l3) = l1 ++ ((digs (l.length : Int) 2 ++ l) ++ l3) := by simp
  have e2 : (((l1 ++ digs (l.length : Int) 2).length : Nat) : Int) = (l1.length : Int) + 2 := by simp [length_digs]
  rw [e1, e2] at hc
  have hE : grE (l1 ++ ((digs l.length 2 ++ l) ++ l3)) l1.length = 0 := by
    rw [grE, if_pos (by exact h1)]
    exact (congrArg (fun z => cutE (l1 ++ ((digs l.length 2 ++ l) ++ l3)) (l1.length + 2) z) h2).trans hc.1
  refine ⟨hE, ?_, ?_⟩
  · rw [grL, if_pos hE]
    exact (congrArg (fun z => cutL (l1 ++ ((digs l.length 2 ++ l) ++ l3)) (l1.length + 2) z) h2).trans hc.2.1
  · rw [grN, if_pos hE]
    exact congrArg (fun z => (l1.length : Int) + 2 + z) h2

set_option maxHeartbeats 2000000 in
theorem back_walk (W n s : Int) (A A' A'' : Option Addr) (c c' c'' : Nat) (l l1 l3 : List Int) (w : World) (hr : Rd w A c l) (hr1 : Rd w A' c' l1) (hr3 : Rd w A'' c'' l3) (hn63 : n ≤ 9223372036854775807) (hs1 : -9223372036854775808 ≤ s) (hs2 : s ≤ 9223372036854775807) :
    Calls Try.prog 5 #[.int .i64 W, .int .i64 n, .int .i64 s, .slice A l.length c, .slice A' l1.length c', .slice A'' l3.length c''] w fun e w' => e = .returned (.bool true) ∧ Below w.heap.size w w' := by
  have hlen := hr.len
  have hlen1 := hr1.len
  have hlen3 := hr3.len
  by_cases hl : 300 < l.length
  · go_enter Try.func5, Try.ntmps5
    go_wp2_with (go_at_call 22; refine (awake_any _).mono ?_; rintro e w1 ⟨rfl, hb1⟩)
    go_ret
    exact ⟨rfl, by assumption⟩
  by_cases hl1 : 300 < l1.length
  · go_enter Try.func5, Try.ntmps5
    go_wp2_with (go_at_call 22; refine (awake_any _).mono ?_; rintro e w1 ⟨rfl, hb1⟩)
    go_ret
    exact ⟨rfl, by assumption⟩
  by_cases hl3 : 300 < l3.length
  · go_enter Try.func5, Try.ntmps5
    go_wp2_with (go_at_call 22; refine (awake_any _).mono ?_; rintro e w1 ⟨rfl, hb1⟩)
    go_ret
    exact ⟨rfl, by assumption⟩
  have E1 : Hid (rowE l = 0) := by simp [Hid, rowE]; omega
  have E2 : Hid (rowL l = digs l.length 2 ++ l) := by simp [Hid, rowL]; omega
  have E3 : Hid ((digs l.length 2 ++ l).length = 2 + l.length) := by simp [Hid, length_digs]
  have S := Lib.hid (sig_back l1 l3 hs1 hs2)
  have R := Lib.hid (row_back l1 l l3 (by omega))
  go_enter Try.func5, Try.ntmps5
  go_wp2_with fail
  refine (awake_any _).mono ?_
  rintro e w1 ⟨rfl, hb1⟩
  have HB1 := Lib.hid hb1
  clear hb1
  go_wp2_with fail
  refine (put_any W n _).mono ?_
  rintro e w2 ⟨A2, c2, rfl, ho2, hb2⟩
  have hb := HB1.out.trans (hb2.mono HB1.out.size)
  have HB := Lib.hid hb
  clear hb hb2 HB1
  by_cases h1 : putE W n = 0
  · obtain ⟨k, rfl, hk1, hk8, hn0, hn, en⟩ := put_inv h1
    rw [en, length_digs] at ho2
    rw [h1, en, length_digs]
    have hr2 := own_rd ho2 (byt_digs _ _)
    have G := Lib.hid (get_back l1 l3 hk1 hk8 hn0 hn hn63)
    have HR2 := Lib.hid hr2
    clear h1 hn0 hn en ho2 hr2
    go_wp2_with fail
    refine (around_m A' A2 A'' _ _ _ c' c2 c'' l1 (digs n k) l3 _ (hr1.keep HB.out) HR2.out (hr3.keep HB.out) rfl (length_digs _ _) rfl (by rw [length_digs]; omega)).mono ?_
    rintro e w3 ⟨A3, c3, rfl, ho3, hb3⟩
    have hr3' := own_rd ho3 (byt_append hr1.byt (byt_append (byt_digs _ _) hr3.byt))
    have HR3 := Lib.hid hr3'
    have HB3 := Lib.hid (HB.out.trans (hb3.mono HB.out.size))
    clear hr3' ho3 hb3 HB
    go_wp2_with fail
    refine (get_m A3 _ c3 _ _ _ _ HR3.out (by simp)).mono ?_
    rintro e w4 ⟨rfl, hb4⟩
    rw [G.out.1, G.out.2.1, G.out.2.2]
    have HB := Lib.hid (HB3.out.trans (hb4.mono HB3.out.size))
    clear hb4 HB3 HR3
    go_wp2_with fail
    refine (signed_any s _).mono ?_
    rintro e w5 ⟨rfl, ho5, hb5⟩
    have HR5 := Lib.hid (own_rd ho5 (byt_digs _ _))
    have HB5 := Lib.hid (HB.out.trans (hb5.mono HB.out.size))
    clear ho5 hb5 HB
    go_wp2_with fail
    refine (around_m A' _ A'' _ _ _ c' _ c'' l1 (digs s 8) l3 _ (hr1.keep HB5.out) HR5.out (hr3.keep HB5.out) rfl (length_digs _ _) rfl (by rw [length_digs]; omega)).mono ?_
    rintro e w6 ⟨A6, c6, rfl, ho6, hb6⟩
    have HR6 := Lib.hid (own_rd ho6 (byt_append hr1.byt (byt_append (byt_digs _ _) hr3.byt)))
    have HB6 := Lib.hid (HB5.out.trans (hb6.mono HB5.out.size))
    clear ho6 hb6 HB5 HR5
    go_wp2_with fail
    refine (sig_m A6 _ c6 _ _ _ HR6.out (by simp)).mono ?_
    rintro e w7 ⟨rfl, hb7⟩
    rw [S.out.1, S.out.2.1, S.out.2.2]
    have HB7 := Lib.hid (HB6.out.trans (hb7.mono HB6.out.size))
    clear hb7 HB6 HR6
    go_wp2_with fail
    refine (row_m A _ c l _ (hr.keep HB7.out) rfl).mono ?_
    rintro e w8 ⟨A8, c8, rfl, ho8, hb8⟩
    rw [E1.out, E2.out]
    rw [E2.out] at ho8
    have HR8 := Lib.hid (own_rd (l := digs l.length 2 ++ l) ho8 (byt_append (byt_digs _ _) hr.byt))
    have HB8 := Lib.hid (HB7.out.trans (hb8.mono HB7.out.size))
    clear ho8 hb8 HB7
    go_wp2_with fail
    refine (around_m A' _ A'' _ _ _ c' _ c'' l1 (digs l.length 2 ++ l) l3 _ (hr1.keep HB8.out) HR8.out (hr3.keep HB8.out) rfl (by simp) rfl (by rw [E3.out]; omega)).mono ?_
    rintro e w9 ⟨A9, c9, rfl, ho9, hb9⟩
    have HR9 := Lib.hid (own_rd ho9 (byt_append hr1.byt (byt_append (byt_append (byt_digs _ _) hr.byt) hr3.byt)))
    have HB9 := Lib.hid (HB8.out.trans (hb9.mono HB8.out.size))
    clear ho9 hb9 HB8 HR8
    go_wp2_with fail
    refine (getrow_m A9 _ c9 _ _ _ HR9.out (by simp)).mono ?_
    rintro e w10 ⟨A10, c10, rfl, ho10, hb10⟩
    rw [R.out.1, R.out.2.1, R.out.2.2]
    rw [R.out.2.1] at ho10
    have hr10 := own_rd ho10 hr.byt
    have HB10 := Lib.hid (HB9.out.trans (hb10.mono HB9.out.size))
    have hcv1 := rd_string (P := Try.prog) hr10 22 9 5 Try.underlying22 Try.underlying5 Try.underlying9
    have hcv2 := rd_string (P := Try.prog) (hr.keep HB10.out) 22 9 5 Try.underlying22 Try.underlying5 Try.underlying9
    clear ho10 hb10 HB9 HR9 hr10
    go_wp2_with fail
    go_ret
    exact ⟨rfl, HB10.out⟩
  · have h1' : (putE W n == 0) = false := by simpa using h1
    clear h1 ho2
    go_wp2_with fail
    refine (signed_any s _).mono ?_
    rintro e w5 ⟨rfl, ho5, hb5⟩
    have HR5 := Lib.hid (own_rd ho5 (byt_digs _ _))
    have HB5 := Lib.hid (HB.out.trans (hb5.mono HB.out.size))
    clear ho5 hb5 HB
    go_wp2_with fail
    refine (around_m A' _ A'' _ _ _ c' _ c'' l1 (digs s 8) l3 _ (hr1.keep HB5.out) HR5.out (hr3.keep HB5.out) rfl (length_digs _ _) rfl (by rw [length_digs]; omega)).mono ?_
    rintro e w6 ⟨A6, c6, rfl, ho6, hb6⟩
    have HR6 := Lib.hid (own_rd ho6 (byt_append hr1.byt (byt_append (byt_digs _ _) hr3.byt)))
    have HB6 := Lib.hid (HB5.out.trans (hb6.mono HB5.out.size))
    clear ho6 hb6 HB5 HR5
    go_wp2_with fail
    refine (sig_m A6 _ c6 _ _ _ HR6.out (by simp)).mono ?_
    rintro e w7 ⟨rfl, hb7⟩
    rw [S.out.1, S.out.2.1, S.out.2.2]
    have HB7 := Lib.hid (HB6.out.trans (hb7.mono HB6.out.size))
    clear hb7 HB6 HR6
    go_wp2_with fail
    refine (row_m A _ c l _ (hr.keep HB7.out) rfl).mono ?_
    rintro e w8 ⟨A8, c8, rfl, ho8, hb8⟩
    rw [E1.out, E2.out]
    rw [E2.out] at ho8
    have HR8 := Lib.hid (own_rd (l := digs l.length 2 ++ l) ho8 (byt_append (byt_digs _ _) hr.byt))
    have HB8 := Lib.hid (HB7.out.trans (hb8.mono HB7.out.size))
    clear ho8 hb8 HB7
    go_wp2_with fail
    refine (around_m A' _ A'' _ _ _ c' _ c'' l1 (digs l.length 2 ++ l) l3 _ (hr1.keep HB8.out) HR8.out (hr3.keep HB8.out) rfl (by simp) rfl (by rw [E3.out]; omega)).mono ?_
    rintro e w9 ⟨A9, c9, rfl, ho9, hb9⟩
    have HR9 := Lib.hid (own_rd ho9 (byt_append hr1.byt (byt_append (byt_append (byt_digs _ _) hr.byt) hr3.byt)))
    have HB9 := Lib.hid (HB8.out.trans (hb9.mono HB8.out.size))
    clear ho9 hb9 HB8 HR8
    go_wp2_with fail
    refine (getrow_m A9 _ c9 _ _ _ HR9.out (by simp)).mono ?_
    rintro e w10 ⟨A10, c10, rfl, ho10, hb10⟩
    rw [R.out.1, R.out.2.1, R.out.2.2]
    rw [R.out.2.1] at ho10
    have hr10 := own_rd ho10 hr.byt
    have HB10 := Lib.hid (HB9.out.trans (hb10.mono HB9.out.size))
    have hcv1 := rd_string (P := Try.prog) hr10 22 9 5 Try.underlying22 Try.underlying5 Try.underlying9
    have hcv2 := rd_string (P := Try.prog) (hr.keep HB10.out) 22 9 5 Try.underlying22 Try.underlying5 Try.underlying9
    clear ho10 hb10 HB9 HR9 hr10
    go_wp2_with fail
    go_ret
    exact ⟨rfl, HB10.out⟩
end Go.Proofs.Ytingcchamhbgkaa
