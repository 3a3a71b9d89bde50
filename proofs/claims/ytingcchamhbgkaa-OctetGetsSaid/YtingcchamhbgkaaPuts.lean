/-
  The walk of OctetPuts: for every width, number, signed number and row the call returns true; nothing that was there has changed.
-/
import Derived.Test.YtingcchamhbgkaaRef
namespace Go.Proofs.Ytingcchamhbgkaa
open Go.RowKit

theorem own_some {w : World} {base e n c : Nat} {A : Option Addr} {xs : List Value} (h : w.ownsRow base e 1 (.slice A n c) n xs) (hn : 0 < n) : ∃ g, A = some ⟨g, 0, none⟩ ∧ base ≤ g := by
  rcases h.2 with ⟨_, h0⟩ | ⟨g, cap, cur, hv, hg, _⟩
  · omega
  · injection hv with e1 e2 e3
    exact ⟨g, e1, hg⟩
theorem cel_set (l : List Int) (j : Nat) (x : Int) : (cel l).set j (.int .u8 x) = cel (l.set j x) := by simp [cel, List.map_set]
theorem byt_set {l : List Int} (h : Byt l) (j : Nat) {x : Int} (hx : 0 ≤ x ∧ x < 256) : Byt (l.set j x) := by
  intro y hy
  rcases List.mem_or_eq_of_mem_set hy with h1 | rfl
  · exact h y h1
  · exact hx
theorem rowL_le (l : List Int) : (rowL l).length ≤ 65537 := by
  unfold rowL
  split
  · simp
  · simp [length_digs]; omega
theorem putL_le (W n : Int) : (putL W n).length ≤ 8 := by
  by_cases h : putE W n = 0
  · obtain ⟨k, rfl, _, h8, _, _, e⟩ := put_inv h
    rw [e, length_digs]; exact h8
  · rw [putL, if_neg h]; simp

set_option linter.unusedSimpArgs false
set_option maxHeartbeats 2000000 in
set_option maxRecDepth 100000 in
theorem puts_walk (W n s : Int) (A : Option Addr) (c : Nat) (l : List Int) (w : World) (hr : Rd w A c l) (hn2 : n ≤ 9223372036854775807) (hs1 : -9223372036854775808 ≤ s) (hs2 : s ≤ 9223372036854775807) :
    Calls Try.prog 3 #[.int .i64 W, .int .i64 n, .int .i64 s, .slice A l.length c] w fun e w' => e = .returned (.bool true) ∧ Below w.heap.size w w' := by
  have hlen := hr.len
  by_cases hl : 70000 < l.length
  · have hl' : (70000 : Int) < (l.length : Int) := by omega
    clear hl
    go_enter Try.func3, Try.ntmps3
    go_wp2_with fail
    go_ret
    exact ⟨rfl, Below.refl _ _⟩
  have hl' : (l.length : Int) ≤ 70000 := by omega
  clear hl
  go_enter Try.func3, Try.ntmps3
  go_wp2_with fail
  refine (copy_any A c l _ hr (by omega)).mono ?_
  rintro e w1 ⟨A1, c1, rfl, ho1, hb1⟩
  have HM1 := Lib.hid (own_rd ho1 hr.byt)
  have HB1 := Lib.hid hb1
  clear ho1 hb1
  go_wp2_with fail
  refine (put_any W n _).mono ?_
  rintro e w2 ⟨A2, c2, rfl, ho2, hb2⟩
  have HP2 := Lib.hid (own_rd ho2 (byt_putL W n))
  have HM2 := Lib.hid (HM1.out.keep hb2)
  have HB2 := Lib.hid (HB1.out.trans (hb2.mono HB1.out.size))
  clear ho2 hb2 HM1 HB1
  go_wp2_with fail
  refine (rput_any W n _ hn2).mono ?_
  rintro e w3 ⟨A3, c3, rfl, ho3, hb3⟩
  have HQ3 := Lib.hid (own_rd ho3 (byt_putL W n))
  have HP3 := Lib.hid (HP2.out.keep hb3)
  have HM3 := Lib.hid (HM2.out.keep hb3)
  have HB3 := Lib.hid (HB2.out.trans (hb3.mono HB2.out.size))
  clear ho3 hb3 HM2 HB2 HP2
  go_wp2_with fail
  refine (signed_any s _).mono ?_
  rintro e w4 ⟨rfl, ho4, hb4⟩
  have HS4 := Lib.hid (own_rd ho4 (byt_digs _ _))
  have HQ4 := Lib.hid (HQ3.out.keep hb4)
  have HP4 := Lib.hid (HP3.out.keep hb4)
  have HM4 := Lib.hid (HM3.out.keep hb4)
  have HB4 := Lib.hid (HB3.out.trans (hb4.mono HB3.out.size))
  clear ho4 hb4 HM3 HB3 HP3 HQ3
  go_wp2_with fail
  refine (rsig_any s _ hs1 hs2).mono ?_
  rintro e w5 ⟨A5, c5, rfl, ho5, hb5⟩
  have HT5 := Lib.hid (own_rd ho5 (byt_digs _ _))
  have HS5 := Lib.hid (HS4.out.keep hb5)
  have HQ5 := Lib.hid (HQ4.out.keep hb5)
  have HP5 := Lib.hid (HP4.out.keep hb5)
  have HM5 := Lib.hid (HM4.out.keep hb5)
  have HB5 := Lib.hid (HB4.out.trans (hb5.mono HB4.out.size))
  clear ho5 hb5 HM4 HB4 HP4 HQ4 HS4
  go_wp2_with fail
  refine (row_m A1 _ c1 l _ HM5.out rfl).mono ?_
  rintro e w6 ⟨A6, c6, rfl, ho6, hb6⟩
  go_wp2_with fail
  refine (rrow_any A c l _ (hr.keep (HB5.out.trans (hb6.mono HB5.out.size)))).mono ?_
  rintro e w7 ⟨A7, c7, rfl, ho7, hb7⟩
  have hb67 := hb6.trans (hb7.mono hb6.size)
  have HO7 := Lib.hid (own_below ho6 hb7 (Nat.le_refl _))
  have HR7 := Lib.hid (own_rd ho7 (byt_rowL hr.byt))
  have HN7 := Lib.hid hb67
  have HB7 := Lib.hid (HB5.out.trans (hb67.mono HB5.out.size))
  have k1 := rd_string (P := Try.prog) (HP5.out.keep hb67) 22 9 5 Try.underlying22 Try.underlying5 Try.underlying9
  have k2 := rd_string (P := Try.prog) (HQ5.out.keep hb67) 22 9 5 Try.underlying22 Try.underlying5 Try.underlying9
  have k3 : (convert 22 9 (.slice (some ⟨w3.heap.size, 0, none⟩) 8 8)).run Try.prog w7 = .ok (.string (strOfNums (digs s 8))) w7 := rd_string (P := Try.prog) (HS5.out.keep hb67) 22 9 5 Try.underlying22 Try.underlying5 Try.underlying9
  have k4 : (convert 22 9 (.slice A5 8 c5)).run Try.prog w7 = .ok (.string (strOfNums (digs s 8))) w7 := rd_string (P := Try.prog) (HT5.out.keep hb67) 22 9 5 Try.underlying22 Try.underlying5 Try.underlying9
  have k5 := rd_string (P := Try.prog) (own_rd HO7.out (byt_rowL hr.byt)) 22 9 5 Try.underlying22 Try.underlying5 Try.underlying9
  have k6 := rd_string (P := Try.prog) HR7.out 22 9 5 Try.underlying22 Try.underlying5 Try.underlying9
  clear ho6 ho7 hb6 hb7 hb67
  go_wp2_with fail
  clear k1 k2 k3 k4 k5 k6
  have hLle := rowL_le l
  have hbl := byt_rowL hr.byt
  go_loopw [21] (fun i wr => ∃ (j : Nat) (m : List Int), j ≤ (rowL l).length ∧ i = .int .i64 j ∧ Hid (Byt m ∧ m.length = (rowL l).length ∧ wr.ownsRow w5.heap.size 5 1 (.slice A6 (rowL l).length c6) (rowL l).length (cel m) ∧ Below w5.heap.size w5 wr))
    (fun i _ => (rowL l).length - (intOf i).toNat)
  case atStart => exact ⟨0, rowL l, Nat.zero_le _, rfl, hbl, rfl, HO7.out, HN7.out⟩
  case round =>
    obtain ⟨j, m, hj, rfl, HI⟩ := hrel
    by_cases hlt : j < (rowL l).length
    · obtain ⟨hbm, hm, hown, hbel⟩ := HI.out
      obtain ⟨g, rfl, hg⟩ := own_some hown (by omega)
      have hfz := hown.frozenAt j
      have hcell := hown.cellAt j (by omega)
      obtain ⟨x, hx⟩ : ∃ x, m[j]? = some x := ⟨_, List.getElem?_eq_getElem (by omega)⟩
      have hx' : (cel m)[j]? = some (.int .u8 x) := by simp [cel, hx]
      rw [hx'] at hcell
      have hxb : 0 ≤ x ∧ x < 256 := hbm x (List.mem_of_getElem? hx)
      have hst := hown.stored j (.int .u8 ((x + 1) % 256))
      rw [cel_set] at hst
      have HS := Lib.hid hst
      have HB := Lib.hid (hbel.setCell (p := ⟨g, j, none⟩) hg (.int .u8 ((x + 1) % 256)))
      have HY := Lib.hid (byt_set hbm j (x := (x + 1) % 256) (by omega))
      have HM := Lib.hid hm
      clear hx hx' hst hbel hown hm hbm HI
      go_wp2_with fail
      go_roundw
      case rel =>
        exact ⟨j + 1, m.set j ((x + 1) % 256), by omega, by go_num, HY.out, by rw [List.length_set]; exact HM.out, HS.out.1, HB.out⟩
      case measure => simp [intOf]; omega
    · obtain ⟨_, _, _, hbel⟩ := HI.out
      have k7 := rd_string (P := Try.prog) (HM5.out.keep hbel) 22 9 5 Try.underlying22 Try.underlying5 Try.underlying9
      have k8 := rd_string (P := Try.prog) (hr.keep (HB5.out.trans (hbel.mono HB5.out.size))) 22 9 5 Try.underlying22 Try.underlying5 Try.underlying9
      have HF := Lib.hid (HB5.out.trans (hbel.mono HB5.out.size))
      obtain rfl : j = (rowL l).length := by omega
      clear hbel HI
      go_wp2_with fail
      go_ret
      exact ⟨rfl, HF.out⟩
end Go.Proofs.Ytingcchamhbgkaa
