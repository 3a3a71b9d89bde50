/-
  The walk of ValueBack, whole: what has bytes is read from them, wherever they stand; what is read has just those bytes; for every argument it returns true.
-/
import Derived.Test.YtndgiehipajghaaDoorVbackf
import Derived.Test.YtndgiehipajghaaDoorVback9
import Derived.Test.YtndgiehipajghaaDoorVback7
namespace Go.Proofs.YtndgiehipajghaaDoor
open Go.RowKit
set_option linter.unusedSimpArgs false
set_option linter.unusedVariables false

theorem wrap_mod {a : Int} (h : -9223372036854775808 ≤ a ∧ a ≤ 9223372036854775807) : wrap64 (a % 18446744073709551616) = a := by
  unfold wrap64
  omega
theorem rdT_1 {a : Int} (l3 : List Int) (h : -9223372036854775808 ≤ a ∧ a ≤ 9223372036854775807) : rdT (valB 1 a 0 ++ l3) 0 = (1, a, 0, 9, 0) := by
  have hl : (valB 1 a 0 ++ l3).length = 9 + l3.length := by rw [List.length_append, len_1]
  have h0 : (valB 1 a 0 ++ l3)[(0 : Int).toNat]?.getD 0 = 1 := by rw [valB_1]; rfl
  have h8 : ((valB 1 a 0 ++ l3).drop ((0 : Int).toNat + 1)).take 8 = digs a 8 := by
    rw [valB_1, List.cons_append]
    show ((digs a 8 ++ l3).take 8) = _
    rw [List.take_append_of_le_length (by rw [length_digs]; omega), List.take_of_length_le (by rw [length_digs]; omega)]
  unfold rdT
  rw [if_neg (by rw [hl]; omega), if_neg (by rw [hl]; omega), if_pos h0, if_neg (by rw [hl]; simp), h8, num_digs, p256_8, wrap_mod h]
  rfl
theorem rdT_2 {a b : Int} (l3 : List Int) (h : okB a b = true) : rdT (valB 2 a b ++ l3) 0 = (2, a, b, 7, 0) := by
  obtain ⟨⟨h1, h2⟩, h3, h4⟩ := okB_iff.1 h
  have hl : (valB 2 a b ++ l3).length = 7 + l3.length := by rw [List.length_append, len_2]
  have h0 : (valB 2 a b ++ l3)[(0 : Int).toNat]?.getD 0 = 2 := by rw [valB_2]; rfl
  have e1 : ((valB 2 a b ++ l3).drop 1).take 3 = digs (a + 1048576) 3 := by
    rw [valB_2, List.cons_append]
    show ((digs (a + 1048576) 3 ++ digs (b + 1048576) 3 ++ l3).take 3) = _
    rw [List.append_assoc, List.take_append_of_le_length (by rw [length_digs]; omega), List.take_of_length_le (by rw [length_digs]; omega)]
  have e2 : ((valB 2 a b ++ l3).drop 4).take 3 = digs (b + 1048576) 3 := by
    rw [valB_2, List.cons_append]
    show (((digs (a + 1048576) 3 ++ digs (b + 1048576) 3 ++ l3).drop 3).take 3) = _
    rw [List.append_assoc, List.drop_append, List.drop_of_length_le (by rw [length_digs]; omega), length_digs, List.nil_append]
    show ((digs (b + 1048576) 3 ++ l3).take 3) = _
    rw [List.take_append_of_le_length (by rw [length_digs]; omega), List.take_of_length_le (by rw [length_digs]; omega)]
  have x1 : x3 (valB 2 a b ++ l3) ((0 : Int).toNat + 1) = a + 1048576 := by
    show num (((valB 2 a b ++ l3).drop 1).take 3) = _
    rw [e1, num_digs, p256_3]; omega
  have x2 : x3 (valB 2 a b ++ l3) ((0 : Int).toNat + 4) = b + 1048576 := by
    show num (((valB 2 a b ++ l3).drop 4).take 3) = _
    rw [e2, num_digs, p256_3]; omega
  unfold rdT
  rw [if_neg (by rw [hl]; omega), if_neg (by rw [hl]; omega), if_neg (by rw [h0]; decide), if_pos h0, if_neg (by rw [hl]; simp), x1, x2, Int.add_sub_cancel, Int.add_sub_cancel, if_pos (by simp [mayB, h])]
  rfl
theorem rdT_c1 (a : Int) : rdT ((valB 1 a 0).take 8) 0 = (0, 0, 0, 0, 10) := by
  have hl : ((valB 1 a 0).take 8).length = 8 := by rw [List.length_take, len_1]; rfl
  have h0 : ((valB 1 a 0).take 8)[(0 : Int).toNat]?.getD 0 = 1 := by rw [valB_1]; rfl
  unfold rdT
  rw [if_neg (by rw [hl]; omega), if_neg (by rw [hl]; omega), if_pos h0, if_pos (by rw [hl]; decide)]
theorem rdT_c2 (a b : Int) : rdT ((valB 2 a b).take 6) 0 = (0, 0, 0, 0, 10) := by
  have hl : ((valB 2 a b).take 6).length = 6 := by rw [List.length_take, len_2]; rfl
  have h0 : ((valB 2 a b).take 6)[(0 : Int).toNat]?.getD 0 = 2 := by rw [valB_2]; rfl
  unfold rdT
  rw [if_neg (by rw [hl]; omega), if_neg (by rw [hl]; omega), if_neg (by rw [h0]; decide), if_pos h0, if_pos (by rw [hl]; decide)]

set_option maxRecDepth 100000 in
set_option maxHeartbeats 1000000 in
theorem back_big (k a b p : Int) (A1 A2 : Option Addr) (cA c2 : Nat) (la lb : List Int) (w : World) (ha : Rd w A1 cA la) (hb : Rd w A2 c2 lb) (hw : GW w) (hl : (300 : Int) < (la.length : Int)) :
    Calls Tryd.prog 5 #[.agg #[.int .u8 k, .int .i64 a, .int .i64 b], .slice A1 la.length cA, .slice A2 lb.length c2, .int .i64 p] w fun e w' => e = .returned (.bool true) ∧ Below w.heap.size w w' := by
  have l1 := ha.len
  have l2 := hb.len
  have G := Lib.hid hw
  clear ha hb hw
  go_enter Tryd.func5, Tryd.ntmps5
  go_wp2_with fail
  refine (awake_any _ (GW.keep G.out new1)).mono ?_
  rintro e w1 ⟨rfl, hb1⟩
  have B1 := Lib.hid (below1 hb1)
  clear hb1
  go_wp2_with fail
  go_ret
  exact ⟨rfl, B1.out⟩
set_option maxRecDepth 100000 in
set_option maxHeartbeats 1000000 in
theorem back_big2 (k a b p : Int) (A1 A2 : Option Addr) (cA c2 : Nat) (la lb : List Int) (w : World) (ha : Rd w A1 cA la) (hb : Rd w A2 c2 lb) (hw : GW w) (hl : (la.length : Int) ≤ 300) (hl2 : (300 : Int) < (lb.length : Int)) :
    Calls Tryd.prog 5 #[.agg #[.int .u8 k, .int .i64 a, .int .i64 b], .slice A1 la.length cA, .slice A2 lb.length c2, .int .i64 p] w fun e w' => e = .returned (.bool true) ∧ Below w.heap.size w w' := by
  have l1 := ha.len
  have l2 := hb.len
  have G := Lib.hid hw
  clear ha hb hw
  go_enter Tryd.func5, Tryd.ntmps5
  go_wp2_with fail
  refine (awake_any _ (GW.keep G.out new1)).mono ?_
  rintro e w1 ⟨rfl, hb1⟩
  have B1 := Lib.hid (below1 hb1)
  clear hb1
  go_wp2_with fail
  go_ret
  exact ⟨rfl, B1.out⟩

theorem back_walk (k a b p : Int) (A1 A2 : Option Addr) (cA c2 : Nat) (la lb : List Int) (w : World) (ha : Rd w A1 cA la) (hb : Rd w A2 c2 lb) (hw : GW w) (hv : -9223372036854775808 ≤ a ∧ a ≤ 9223372036854775807) :
    Calls Tryd.prog 5 #[.agg #[.int .u8 k, .int .i64 a, .int .i64 b], .slice A1 la.length cA, .slice A2 lb.length c2, .int .i64 p] w fun e w' => e = .returned (.bool true) ∧ Below w.heap.size w w' := by
  by_cases h1 : (300 : Int) < (la.length : Int)
  · exact back_big k a b p A1 A2 cA c2 la lb w ha hb hw h1
  · by_cases h2 : (300 : Int) < (lb.length : Int)
    · exact back_big2 k a b p A1 A2 cA c2 la lb w ha hb hw (by omega) h2
    · have h1' : (la.length : Int) ≤ 300 := by omega
      have h2' : (lb.length : Int) ≤ 300 := by omega
      obtain ⟨k2, a2, b2, n2, e2, hR⟩ : ∃ k2 a2 b2 n2 e2, rdT lb p = (k2, a2, b2, n2, e2) := ⟨_, _, _, _, _, rfl⟩
      have ins : mayB k a b = true → insB k a b = true := fun h => by rw [insB, h, Bool.true_or]
      by_cases he : e2 = 0
      · subst he
        obtain ⟨q, n, rfl, rfl, hm2, hL2, hn2, hq⟩ := rdT_ok hb.byt hR
        have hB2 : bytE k2 a2 b2 = 0 ∧ bytL k2 a2 b2 = bytL k2 a2 b2 ∧ (bytL k2 a2 b2).length = n := ⟨by simp [bytE, hm2], rfl, hn2⟩
        cases hm : mayB k a b with
        | false => exact back_fo k a b [] A1 A2 cA c2 la lb k2 a2 b2 _ q n w ha hb hw hm (bytE_f hm) (fun x hx => by cases hx) h1' h2' hR hm2 hB2 (byt_bytL _ _ _) hq hL2.symm
        | true =>
          rcases may_cases hm with ⟨rfl, rfl⟩ | ⟨rfl, ho⟩
          · exact back_9o 1 a 0 _ A1 A2 cA c2 la lb k2 a2 b2 _ q n w ha hb hw hm (bytE_1 a) (byt_valB _ _ _) h1' h2' (ins hm) (rdT_at la _ lb (by rw [valB_1]; simp) (rdT_1 lb hv) rfl) (rdT_c1 a) hR hm2 hB2 (byt_bytL _ _ _) hq hL2.symm
          · exact back_7o 2 a b _ A1 A2 cA c2 la lb k2 a2 b2 _ q n w ha hb hw hm (bytE_2 ho) (byt_valB _ _ _) h1' h2' (ins hm) (rdT_at la _ lb (by rw [valB_2]; simp) (rdT_2 lb ho) rfl) (rdT_c2 a b) hR hm2 hB2 (byt_bytL _ _ _) hq hL2.symm
      · obtain ⟨rfl, rfl, rfl, rfl⟩ := rdT_err hR he
        have he' : (e2 != 0) = true := by simpa using he
        cases hm : mayB k a b with
        | false => exact back_fe k a b [] A1 A2 cA c2 la lb p e2 w ha hb hw hm (bytE_f hm) (fun x hx => by cases hx) h1' h2' hR he'
        | true =>
          rcases may_cases hm with ⟨rfl, rfl⟩ | ⟨rfl, ho⟩
          · exact back_9e 1 a 0 _ A1 A2 cA c2 la lb p e2 w ha hb hw hm (bytE_1 a) (byt_valB _ _ _) h1' h2' (ins hm) (rdT_at la _ lb (by rw [valB_1]; simp) (rdT_1 lb hv) rfl) (rdT_c1 a) hR he'
          · exact back_7e 2 a b _ A1 A2 cA c2 la lb p e2 w ha hb hw hm (bytE_2 ho) (byt_valB _ _ _) h1' h2' (ins hm) (rdT_at la _ lb (by rw [valB_2]; simp) (rdT_2 lb ho) rfl) (rdT_c2 a b) hR he'
end Go.Proofs.YtndgiehipajghaaDoor
