/-
  What the document's own answers of layer 3 are (capstanref03): the same functions of the arguments as the program's; nothing that was there has changed.
-/
import Derived.Test.YtndgiehipajghaaDoorVmath
import Derived.Test.YtndgiehipajghaaDoorRefSig
import Derived.Test.YtndgiehipajghaaDoorGref
namespace Go.Proofs.YtndgiehipajghaaDoor
open Go.RowKit
set_option linter.unusedSimpArgs false
set_option linter.unusedVariables false

theorem r3may_1 (a b : Int) (v : Bool) (w : World) (h : (b == 0) = v) : Calls Tryd.prog 16 #[.agg #[.int .u8 1, .int .i64 a, .int .i64 b]] w fun e w' => e = .returned (.bool v) ∧ Below w.heap.size w w' := by
  cases v with
  | true =>
    go_enter Tryd.func16, Tryd.ntmps16
    go_wp2_with fail
    go_ret
    exact ⟨rfl, new1⟩
  | false =>
    go_enter Tryd.func16, Tryd.ntmps16
    go_wp2_with fail
    go_ret
    exact ⟨rfl, new1⟩
theorem r3may_2 (a b : Int) (v : Bool) (w : World) (h : okB a b = v) : Calls Tryd.prog 16 #[.agg #[.int .u8 2, .int .i64 a, .int .i64 b]] w fun e w' => e = .returned (.bool v) ∧ Below w.heap.size w w' := by
  have H := Lib.hid h
  clear h
  go_enter Tryd.func16, Tryd.ntmps16
  go_wp2_with fail
  refine (rmay_v _ _ _ _ H.out).mono ?_
  rintro e w1 ⟨rfl, rfl⟩
  go_wp2_with fail
  go_ret
  exact ⟨rfl, new1⟩
theorem r3may_n (k a b : Int) (w : World) (h1 : (k == 1) = false) (h2 : (k == 2) = false) : Calls Tryd.prog 16 #[.agg #[.int .u8 k, .int .i64 a, .int .i64 b]] w fun e w' => e = .returned (.bool false) ∧ Below w.heap.size w w' := by
  go_enter Tryd.func16, Tryd.ntmps16
  go_wp2_with fail
  go_ret
  exact ⟨rfl, new1⟩
theorem r3may_v (k a b : Int) (v : Bool) (w : World) (h : mayB k a b = v) : Calls Tryd.prog 16 #[.agg #[.int .u8 k, .int .i64 a, .int .i64 b]] w fun e w' => e = .returned (.bool v) ∧ Below w.heap.size w w' := by
  by_cases h1 : k = 1
  · subst h1
    exact r3may_1 a b v w (by simpa [mayB] using h)
  · by_cases h2 : k = 2
    · subst h2
      exact r3may_2 a b v w (by simpa [mayB] using h)
    · have e : mayB k a b = false := by simp [mayB, h1, h2]
      rw [e] at h
      subst h
      exact r3may_n k a b w (by simpa using h1) (by simpa using h2)

theorem r3ins_m (k a b : Int) (w : World) (h : mayB k a b = true) : Calls Tryd.prog 18 #[.agg #[.int .u8 k, .int .i64 a, .int .i64 b]] w fun e w' => e = .returned (.bool true) ∧ Below w.heap.size w w' := by
  have H := Lib.hid h
  clear h
  go_enter Tryd.func18, Tryd.ntmps18
  go_wp2_with fail
  refine (r3may_v _ _ _ _ _ H.out).mono ?_
  rintro e w1 ⟨rfl, hb1⟩
  go_wp2_with fail
  go_ret
  exact ⟨rfl, below1 hb1⟩
theorem r3ins_k (k a b : Int) (w : World) (h : mayB k a b = false) (hk : (k == 3) = false) : Calls Tryd.prog 18 #[.agg #[.int .u8 k, .int .i64 a, .int .i64 b]] w fun e w' => e = .returned (.bool false) ∧ Below w.heap.size w w' := by
  have H := Lib.hid h
  clear h
  go_enter Tryd.func18, Tryd.ntmps18
  go_wp2_with fail
  refine (r3may_v _ _ _ _ _ H.out).mono ?_
  rintro e w1 ⟨rfl, hb1⟩
  have S1 := Lib.hid ((Sx.start w).newV hb1)
  clear hb1
  obtain ⟨-, ⟨z0, z1, z2, z3, -⟩, -⟩ := S1.out
  go_wp2_with fail
  go_ret
  exact ⟨rfl, S1.out.1⟩
theorem r3ins_a (a b : Int) (w : World) (ha : a < 0) : Calls Tryd.prog 18 #[.agg #[.int .u8 3, .int .i64 a, .int .i64 b]] w fun e w' => e = .returned (.bool false) ∧ Below w.heap.size w w' := by
  have H : Hid (mayB 3 a b = false) := by simp [Hid, mayB]
  have hd : decide (0 ≤ a) = false := by simp; omega
  go_enter Tryd.func18, Tryd.ntmps18
  go_wp2_with fail
  refine (r3may_v _ _ _ _ _ H.out).mono ?_
  rintro e w1 ⟨rfl, hb1⟩
  have S1 := Lib.hid ((Sx.start w).newV hb1)
  clear hb1
  obtain ⟨-, ⟨z0, z1, z2, z3, -⟩, -⟩ := S1.out
  go_wp2_with fail
  go_ret
  exact ⟨rfl, S1.out.1⟩
theorem r3ins_b (a b : Int) (v : Bool) (w : World) (ha : 0 ≤ a) (hv : (b == 0) = v) : Calls Tryd.prog 18 #[.agg #[.int .u8 3, .int .i64 a, .int .i64 b]] w fun e w' => e = .returned (.bool v) ∧ Below w.heap.size w w' := by
  have H : Hid (mayB 3 a b = false) := by simp [Hid, mayB]
  have V := Lib.hid hv
  clear hv
  go_enter Tryd.func18, Tryd.ntmps18
  go_wp2_with fail
  refine (r3may_v _ _ _ _ _ H.out).mono ?_
  rintro e w1 ⟨rfl, hb1⟩
  have S1 := Lib.hid ((Sx.start w).newV hb1)
  clear hb1
  obtain ⟨-, ⟨z0, z1, z2, z3, -⟩, -⟩ := S1.out
  have hv := V.out
  go_wp2_with fail
  go_ret
  exact ⟨rfl, S1.out.1⟩
theorem r3ins_v (k a b : Int) (v : Bool) (w : World) (h : insB k a b = v) : Calls Tryd.prog 18 #[.agg #[.int .u8 k, .int .i64 a, .int .i64 b]] w fun e w' => e = .returned (.bool v) ∧ Below w.heap.size w w' := by
  subst h
  unfold insB
  cases hm : mayB k a b with
  | true => exact r3ins_m k a b w hm
  | false =>
    rw [Bool.false_or]
    by_cases hk : k = 3
    · subst hk
      by_cases ha : 0 ≤ a
      · rw [decide_eq_true ha, Bool.true_and]
        exact r3ins_b a b _ w ha (by simp)
      · rw [decide_eq_false ha, Bool.false_and]
        exact r3ins_a a b w (by omega)
    · have hk' : (k == 3) = false := by simpa using hk
      rw [hk', Bool.false_and, Bool.and_false]
      exact r3ins_k k a b w hm hk'

theorem r3zero_1 (w : World) : Calls Tryd.prog 9 #[.int .u8 1] w fun e w' => e = .returned (.tuple #[.agg #[.int .u8 1, .int .i64 0, .int .i64 0], .bool true]) ∧ Below w.heap.size w w' := by
  go_enter Tryd.func9, Tryd.ntmps9
  go_wp2_with fail
  exact bodyPost_ret (v := .tuple #[.agg #[.int .u8 1, .int .i64 0, .int .i64 0], .bool true]) (by simp [results, Tryd.results9, go_sem]) rfl ⟨rfl, new1⟩
theorem r3zero_2 (w : World) : Calls Tryd.prog 9 #[.int .u8 2] w fun e w' => e = .returned (.tuple #[.agg #[.int .u8 2, .int .i64 0, .int .i64 0], .bool true]) ∧ Below w.heap.size w w' := by
  go_enter Tryd.func9, Tryd.ntmps9
  go_wp2_with fail
  exact bodyPost_ret (v := .tuple #[.agg #[.int .u8 2, .int .i64 0, .int .i64 0], .bool true]) (by simp [results, Tryd.results9, go_sem]) rfl ⟨rfl, new1⟩
theorem r3zero_3 (w : World) : Calls Tryd.prog 9 #[.int .u8 3] w fun e w' => e = .returned (.tuple #[.agg #[.int .u8 3, .int .i64 0, .int .i64 0], .bool true]) ∧ Below w.heap.size w w' := by
  go_enter Tryd.func9, Tryd.ntmps9
  go_wp2_with fail
  exact bodyPost_ret (v := .tuple #[.agg #[.int .u8 3, .int .i64 0, .int .i64 0], .bool true]) (by simp [results, Tryd.results9, go_sem]) rfl ⟨rfl, new1⟩
theorem r3zero_n (k : Int) (w : World) (h1 : (k == 1) = false) (h2 : (k == 2) = false) (h3 : (k == 3) = false) : Calls Tryd.prog 9 #[.int .u8 k] w fun e w' => e = .returned (.tuple #[.agg #[.int .u8 0, .int .i64 0, .int .i64 0], .bool false]) ∧ Below w.heap.size w w' := by
  go_enter Tryd.func9, Tryd.ntmps9
  go_wp2_with fail
  exact bodyPost_ret (v := .tuple #[.agg #[.int .u8 0, .int .i64 0, .int .i64 0], .bool false]) (by simp [results, Tryd.results9, go_sem]) rfl ⟨rfl, new1⟩
theorem r3zero_v (k : Int) (v : Bool) (w : World) (h : kB k = v) : Calls Tryd.prog 9 #[.int .u8 k] w fun e w' => e = .returned (.tuple #[.agg #[.int .u8 (gX v k), .int .i64 0, .int .i64 0], .bool v]) ∧ Below w.heap.size w w' := by
  by_cases h1 : k = 1
  · subst h1; obtain rfl : true = v := h; exact r3zero_1 w
  · by_cases h2 : k = 2
    · subst h2; obtain rfl : true = v := h; exact r3zero_2 w
    · by_cases h3 : k = 3
      · subst h3; obtain rfl : true = v := h; exact r3zero_3 w
      · obtain rfl : false = v := by rw [← h]; simp [kB, h1, h2, h3]
        exact r3zero_n k w (by simpa using h1) (by simpa using h2) (by simpa using h3)

theorem r3bytes_f (k a b : Int) (w : World) (h : mayB k a b = false) : Calls Tryd.prog 11 #[.agg #[.int .u8 k, .int .i64 a, .int .i64 b]] w fun e w' => e = .returned (.tuple #[.slice none 0 0, .int .i64 30]) ∧ Below w.heap.size w w' := by
  have H := Lib.hid h
  clear h
  go_enter Tryd.func11, Tryd.ntmps11
  go_wp2_with fail
  refine (r3may_v _ _ _ _ _ H.out).mono ?_
  rintro e w1 ⟨rfl, hb1⟩
  go_wp2_with fail
  go_ret2
  exact ⟨rfl, below1 hb1⟩
set_option maxHeartbeats 1000000 in
theorem r3bytes_1 (a : Int) (w : World) (ha : -9223372036854775808 ≤ a ∧ a ≤ 9223372036854775807) : Calls Tryd.prog 11 #[.agg #[.int .u8 1, .int .i64 a, .int .i64 0]] w fun e w' => ∃ A c, e = .returned (.tuple #[.slice A 9 c, .int .i64 0]) ∧
      w'.ownsRow w.heap.size 5 1 (.slice A 9 c) 9 (cel (1 :: digs a 8)) ∧ Below w.heap.size w w' := by
  obtain ⟨i0, hi, hz0, hz1, hz2⟩ := info_parts Tryd.info5
  have H : Hid (mayB 1 a 0 = true) := by simp [Hid, mayB]
  have HA := Lib.hid ha
  clear ha
  go_enter Tryd.func11, Tryd.ntmps11
  go_wp2_with fail
  refine (r3may_v _ _ _ _ _ H.out).mono ?_
  rintro e w1 ⟨rfl, hb1⟩
  have S1 := Lib.hid ((Sx.start w).newV hb1)
  clear hb1
  obtain ⟨-, ⟨z0, z1, z2, z3, -⟩, -⟩ := S1.out
  go_wp2_with fail
  clear z0 z1 z2 z3
  have O1 : Hid ((w1.alloc (.cells #[.int .u8 1] 5)).ownsRow w1.heap.size 5 1 (.slice (some ⟨w1.heap.size, 0, none⟩) 1 1) 1 (cel [1])) := World.ownsRow_lit (base := w1.heap.size) (e := 5) (size := 1) w1 #[.int .u8 1] 1 (Nat.le_refl _) (by unfold maxLen; simp) (by simp)
  refine (rsig_any a _ HA.out.1 HA.out.2).mono ?_
  rintro e w2 ⟨A2, c2, rfl, ho2, hb2⟩
  have R2 := Lib.hid (own_rd ho2 (byt_digs _ _))
  have O2 := Lib.hid (own_below O1.out hb2 (Nat.le_refl _))
  have B2 := Lib.hid (below1 hb2)
  clear hb2 ho2 O1
  go_wp2_with (at_builtin; refine wpList_append_rd _ rfl _ _ 26 rfl w1.heap.size 5 i0 Tryd.underlying26 hi hz0 hz1 hz2 _ 1 [1] rfl O2.out A2 8 c2 (digs a 8) rfl R2.out (length_digs _ _).symm (by omega) B2.out.size ?_; intro A5 c5 w5 ho5 hg5 hb5 _)
  go_ret2
  exact ⟨A5, c5, rfl, own_base (by simpa using ho5) S1.out.1.size, below_on S1.out.1 (B2.out.trans hb5)⟩
set_option maxHeartbeats 1000000 in
theorem r3bytes_2 (a b : Int) (w : World) (h : okB a b = true) : Calls Tryd.prog 11 #[.agg #[.int .u8 2, .int .i64 a, .int .i64 b]] w fun e w' => ∃ A c, e = .returned (.tuple #[.slice A 7 c, .int .i64 0]) ∧
      w'.ownsRow w.heap.size 5 1 (.slice A 7 c) 7 (cel (2 :: (digs (a + 1048576) 3 ++ digs (b + 1048576) 3))) ∧ Below w.heap.size w w' := by
  obtain ⟨i0, hi, hz0, hz1, hz2⟩ := info_parts Tryd.info5
  obtain ⟨⟨a1, a2⟩, b1, b2⟩ := okB_iff.1 h
  have H : Hid (mayB 2 a b = true) := by simp [Hid, mayB, h]
  have PA : Hid (putE 3 (a + 1048576) = 0 ∧ putL 3 (a + 1048576) = digs (a + 1048576) 3) := put_yes (k := 3) (by omega) (by omega) (by omega) (by rw [p256_3]; omega)
  have PB : Hid (putE 3 (b + 1048576) = 0 ∧ putL 3 (b + 1048576) = digs (b + 1048576) 3) := put_yes (k := 3) (by omega) (by omega) (by omega) (by rw [p256_3]; omega)
  clear h
  go_enter Tryd.func11, Tryd.ntmps11
  go_wp2_with fail
  refine (r3may_v _ _ _ _ _ H.out).mono ?_
  rintro e w1 ⟨rfl, hb1⟩
  have S1 := Lib.hid ((Sx.start w).newV hb1)
  clear hb1
  obtain ⟨-, ⟨z0, z1, z2, z3, -⟩, -⟩ := S1.out
  go_wp2_with fail
  clear z0 z1 z2 z3
  refine (rput_any 3 (a + 1048576) _ (by omega)).mono ?_
  rintro e w2 ⟨A2, c2, rfl, ho2, hb2⟩
  rw [PA.out.1, PA.out.2, length_digs]
  rw [PA.out.2, length_digs] at ho2
  have S2 := Lib.hid ((S1.out.call hb2).add (fR A2 c2 _) (own_rd ho2 (byt_digs _ _)))
  clear hb2 ho2 S1
  obtain ⟨-, -, ⟨z0, z1, z2, z3, -⟩, -⟩ := S2.out
  go_wp2_with fail
  clear z0 z1 z2 z3
  refine (rput_any 3 (b + 1048576) _ (by omega)).mono ?_
  rintro e w3 ⟨A3, c3, rfl, ho3, hb3⟩
  rw [PB.out.1, PB.out.2, length_digs]
  rw [PB.out.2, length_digs] at ho3
  have S3 := Lib.hid ((S2.out.call hb3).add (fR A3 c3 _) (own_rd ho3 (byt_digs _ _)))
  clear hb3 ho3 S2
  have O1 : Hid ((w3.alloc (.cells #[.int .u8 2] 5)).ownsRow w3.heap.size 5 1 (.slice (some ⟨w3.heap.size, 0, none⟩) 1 1) 1 (cel [2])) := World.ownsRow_lit (base := w3.heap.size) (e := 5) (size := 1) w3 #[.int .u8 2] 1 (Nat.le_refl _) (by unfold maxLen; simp) (by simp)
  go_wp2_with (at_builtin; refine wpList_append_rd _ rfl (.tmp 33) (.tmp 34) 26 rfl w3.heap.size 5 i0 Tryd.underlying26 hi hz0 hz1 hz2 _ 1 [2] rfl O1.out A2 3 c2 (digs (a + 1048576) 3) rfl (Rd.alloc S3.out.2.2.1 _) (length_digs _ _).symm (by omega) new1.size ?_)
  intro A4 c4 w4 ho4 _ hb4 _
  have O4 := Lib.hid ho4
  have B4 := Lib.hid (new1.trans hb4)
  clear ho4 hb4 O1
  go_wp2_with (at_builtin; refine wpList_append_rd _ rfl (.tmp 35) (.tmp 36) 26 rfl w3.heap.size 5 i0 Tryd.underlying26 hi hz0 hz1 hz2 _ 4 (2 :: digs (a + 1048576) 3) rfl O4.out A3 3 c3 (digs (b + 1048576) 3) rfl (Rd.keep S3.out.2.1 B4.out) (length_digs _ _).symm (by omega) B4.out.size ?_)
  intro A5 c5 w5 ho5 _ hb5 _
  go_wp2_with fail
  go_ret2
  exact ⟨A5, c5, rfl, own_base (by simpa using ho5) S3.out.1.size, below_on S3.out.1 (B4.out.trans hb5)⟩
theorem r3bytes_v (k a b e0 : Int) (L : List Int) (n : Nat) (w : World) (ha : -9223372036854775808 ≤ a ∧ a ≤ 9223372036854775807) (h : bytE k a b = e0 ∧ bytL k a b = L ∧ L.length = n) : Calls Tryd.prog 11 #[.agg #[.int .u8 k, .int .i64 a, .int .i64 b]] w fun e w' => ∃ A c, e = .returned (.tuple #[.slice A n c, .int .i64 e0]) ∧
      w'.ownsRow w.heap.size 5 1 (.slice A n c) n (cel L) ∧ Below w.heap.size w w' := by
  obtain ⟨rfl, rfl, rfl⟩ := h
  unfold bytE bytL
  cases hm : mayB k a b with
  | false =>
    refine (r3bytes_f k a b w hm).mono ?_
    rintro e w' ⟨rfl, hb⟩
    exact ⟨none, 0, rfl, World.ownsRow_nil _ _ _ _, hb⟩
  | true =>
    by_cases h1 : k = 1
    · subst h1
      have h0 : b = 0 := by simpa [mayB] using hm
      subst h0
      rw [if_pos rfl, valB, if_pos rfl]
      have e : (1 :: digs a 8).length = 9 := by simp [length_digs]
      rw [if_pos rfl, e]
      exact r3bytes_1 a w ha
    · have h2 : k = 2 ∧ okB a b = true := by simpa [mayB, h1] using hm
      obtain ⟨rfl, h2⟩ := h2
      rw [if_pos rfl, valB, if_neg (by decide)]
      have e : (2 :: (digs (a + 1048576) 3 ++ digs (b + 1048576) 3)).length = 7 := by simp [length_digs]
      rw [if_pos rfl, e]
      exact r3bytes_2 a b w h2
end Go.Proofs.YtndgiehipajghaaDoor
