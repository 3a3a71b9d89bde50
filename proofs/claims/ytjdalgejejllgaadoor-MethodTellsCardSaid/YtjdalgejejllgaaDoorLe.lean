/-
  Vref, Vrread: in one text.
-/
import Derived.Test.YtjdalgejejllgaaDoorLd
import Derived.Test.YtjdalgejejllgaaDoorLb
import Derived.Test.YtjdalgejejllgaaDoorLc
namespace Go.Proofs.YtjdalgejejllgaaDoor
open Go.RowKit
set_option linter.unusedSimpArgs false
set_option linter.unusedVariables false

theorem r3may_1 (a b : Int) (v : Bool) (w : World) (h : (b == 0) = v) : Calls Tryd.prog 54 #[.agg #[.int .u8 1, .int .i64 a, .int .i64 b]] w fun e w' => e = .returned (.bool v) ∧ Below w.heap.size w w' := by
  cases v with
  | true =>
    go_enter Tryd.func54, Tryd.ntmps54
    go_wp2_with fail
    go_ret
    exact ⟨rfl, new1⟩
  | false =>
    go_enter Tryd.func54, Tryd.ntmps54
    go_wp2_with fail
    go_ret
    exact ⟨rfl, new1⟩
theorem r3may_2 (a b : Int) (v : Bool) (w : World) (h : okB a b = v) : Calls Tryd.prog 54 #[.agg #[.int .u8 2, .int .i64 a, .int .i64 b]] w fun e w' => e = .returned (.bool v) ∧ Below w.heap.size w w' := by
  have H := Lib.hid h
  clear h
  go_enter Tryd.func54, Tryd.ntmps54
  go_wp2_with fail
  refine (rmay_v _ _ _ _ H.out).mono ?_
  rintro e w1 ⟨rfl, rfl⟩
  go_wp2_with fail
  go_ret
  exact ⟨rfl, new1⟩
theorem r3may_n (k a b : Int) (w : World) (h1 : (k == 1) = false) (h2 : (k == 2) = false) : Calls Tryd.prog 54 #[.agg #[.int .u8 k, .int .i64 a, .int .i64 b]] w fun e w' => e = .returned (.bool false) ∧ Below w.heap.size w w' := by
  go_enter Tryd.func54, Tryd.ntmps54
  go_wp2_with fail
  go_ret
  exact ⟨rfl, new1⟩
theorem r3may_v (k a b : Int) (v : Bool) (w : World) (h : mayB k a b = v) : Calls Tryd.prog 54 #[.agg #[.int .u8 k, .int .i64 a, .int .i64 b]] w fun e w' => e = .returned (.bool v) ∧ Below w.heap.size w w' := by
  by_cases h1 : k = 1
  · subst h1
    exact r3may_1 a b v w (by simpa [mayB] using h)
  · by_cases h2 : k = 2
    · subst h2
      exact r3may_2 a b v w (by simpa [mayB] using h)
    · have e : mayB k a b = false := by simp [mayB, h1, h2]
      rw [e] at h
      subst h
      exact r3may_n k a b w (by simpa using h1) (by simpa using h2)

theorem r3ins_m (k a b : Int) (w : World) (h : mayB k a b = true) : Calls Tryd.prog 36 #[.agg #[.int .u8 k, .int .i64 a, .int .i64 b]] w fun e w' => e = .returned (.bool true) ∧ Below w.heap.size w w' := by
  have H := Lib.hid h
  clear h
  go_enter Tryd.func36, Tryd.ntmps36
  go_wp2_with fail
  refine (r3may_v _ _ _ _ _ H.out).mono ?_
  rintro e w1 ⟨rfl, hb1⟩
  go_wp2_with fail
  go_ret
  exact ⟨rfl, below1 hb1⟩
theorem r3ins_k (k a b : Int) (w : World) (h : mayB k a b = false) (hk : (k == 3) = false) : Calls Tryd.prog 36 #[.agg #[.int .u8 k, .int .i64 a, .int .i64 b]] w fun e w' => e = .returned (.bool false) ∧ Below w.heap.size w w' := by
  have H := Lib.hid h
  clear h
  go_enter Tryd.func36, Tryd.ntmps36
  go_wp2_with fail
  refine (r3may_v _ _ _ _ _ H.out).mono ?_
  rintro e w1 ⟨rfl, hb1⟩
  have S1 := Lib.hid ((Sx.start w).newV hb1)
  clear hb1
  obtain ⟨-, ⟨z0, z1, z2, z3, -⟩, -⟩ := S1.out
  go_wp2_with fail
  go_ret
  exact ⟨rfl, S1.out.1⟩
theorem r3ins_a (a b : Int) (w : World) (ha : a < 0) : Calls Tryd.prog 36 #[.agg #[.int .u8 3, .int .i64 a, .int .i64 b]] w fun e w' => e = .returned (.bool false) ∧ Below w.heap.size w w' := by
  have H : Hid (mayB 3 a b = false) := by simp [Hid, mayB]
  have hd : decide (0 ≤ a) = false := by simp; omega
  go_enter Tryd.func36, Tryd.ntmps36
  go_wp2_with fail
  refine (r3may_v _ _ _ _ _ H.out).mono ?_
  rintro e w1 ⟨rfl, hb1⟩
  have S1 := Lib.hid ((Sx.start w).newV hb1)
  clear hb1
  obtain ⟨-, ⟨z0, z1, z2, z3, -⟩, -⟩ := S1.out
  go_wp2_with fail
  go_ret
  exact ⟨rfl, S1.out.1⟩
theorem r3ins_b (a b : Int) (v : Bool) (w : World) (ha : 0 ≤ a) (hv : (b == 0) = v) : Calls Tryd.prog 36 #[.agg #[.int .u8 3, .int .i64 a, .int .i64 b]] w fun e w' => e = .returned (.bool v) ∧ Below w.heap.size w w' := by
  have H : Hid (mayB 3 a b = false) := by simp [Hid, mayB]
  have V := Lib.hid hv
  clear hv
  go_enter Tryd.func36, Tryd.ntmps36
  go_wp2_with fail
  refine (r3may_v _ _ _ _ _ H.out).mono ?_
  rintro e w1 ⟨rfl, hb1⟩
  have S1 := Lib.hid ((Sx.start w).newV hb1)
  clear hb1
  obtain ⟨-, ⟨z0, z1, z2, z3, -⟩, -⟩ := S1.out
  have hv := V.out
  go_wp2_with fail
  go_ret
  exact ⟨rfl, S1.out.1⟩
theorem r3ins_v (k a b : Int) (v : Bool) (w : World) (h : insB k a b = v) : Calls Tryd.prog 36 #[.agg #[.int .u8 k, .int .i64 a, .int .i64 b]] w fun e w' => e = .returned (.bool v) ∧ Below w.heap.size w w' := by
  subst h
  unfold insB
  cases hm : mayB k a b with
  | true => exact r3ins_m k a b w hm
  | false =>
    rw [Bool.false_or]
    by_cases hk : k = 3
    · subst hk
      by_cases ha : 0 ≤ a
      · rw [decide_eq_true ha, Bool.true_and]
        exact r3ins_b a b _ w ha (by simp)
      · rw [decide_eq_false ha, Bool.false_and]
        exact r3ins_a a b w (by omega)
    · have hk' : (k == 3) = false := by simpa using hk
      rw [hk', Bool.false_and, Bool.and_false]
      exact r3ins_k k a b w hm hk'

end Go.Proofs.YtjdalgejejllgaaDoor
namespace Go.Proofs.YtjdalgejejllgaaDoor
open Go.RowKit
set_option linter.unusedSimpArgs false
set_option linter.unusedVariables false

end Go.Proofs.YtjdalgejejllgaaDoor
