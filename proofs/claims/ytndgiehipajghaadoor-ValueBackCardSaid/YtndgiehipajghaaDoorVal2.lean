/-
  What value.Inside and value.Zero answer, each a contract for every argument; which values are external, internal, zero, in plain words.
-/
import Derived.Test.YtndgiehipajghaaDoorVal
namespace Go.Proofs.YtndgiehipajghaaDoor
open Go.RowKit

theorem vins_m (k a b : Int) (w : World) (h : mayB k a b = true) : Calls Tryd.prog 17 #[.agg #[.int .u8 k, .int .i64 a, .int .i64 b]] w fun e w' => e = .returned (.bool true) ∧ Below w.heap.size w w' := by
  have H := Lib.hid h
  clear h
  go_enter Tryd.func17, Tryd.ntmps17
  go_wp2_with fail
  refine (vmay_v _ _ _ _ _ H.out).mono ?_
  rintro e w1 ⟨rfl, hb1⟩
  go_wp2_with fail
  go_ret
  exact ⟨rfl, below2 hb1⟩
theorem vins_n (k a b : Int) (w : World) (h : mayB k a b = false) (ha : a < 0) : Calls Tryd.prog 17 #[.agg #[.int .u8 k, .int .i64 a, .int .i64 b]] w fun e w' => e = .returned (.bool false) ∧ Below w.heap.size w w' := by
  have H := Lib.hid h
  have hd : decide (0 ≤ a) = false := by simp; omega
  clear h
  go_enter Tryd.func17, Tryd.ntmps17
  go_wp2_with fail
  refine (vmay_v _ _ _ _ _ H.out).mono ?_
  rintro e w1 ⟨rfl, hb1⟩
  have S1 := Lib.hid (((Sx.start w).mkV k a b).newV hb1)
  clear hb1
  obtain ⟨-, -, ⟨z1, z2, z3, z4, -⟩, -⟩ := S1.out
  go_wp2_with fail
  go_ret
  exact ⟨rfl, S1.out.1⟩
theorem vins_r (k a b : Int) (v : Bool) (w : World) (h : mayB k a b = false) (ha : 0 ≤ a) (hv : (k == 3 && b == 0) = v) : Calls Tryd.prog 17 #[.agg #[.int .u8 k, .int .i64 a, .int .i64 b]] w fun e w' => e = .returned (.bool v) ∧ Below w.heap.size w w' := by
  have H := Lib.hid h
  have q1 := eq_val 9998 k a b 3 a 0 v (by rw [← hv]; simp)
  clear h hv
  go_enter Tryd.func17, Tryd.ntmps17
  go_wp2_with fail
  refine (vmay_v _ _ _ _ _ H.out).mono ?_
  rintro e w1 ⟨rfl, hb1⟩
  have S1 := Lib.hid (((Sx.start w).mkV k a b).newV hb1)
  clear hb1
  obtain ⟨-, ⟨y1, y2, y3, y4, -⟩, ⟨z1, z2, z3, z4, -⟩, -⟩ := S1.out
  simp at y1 y2 y3 y4
  go_wp2_with fail
  go_ret
  exact ⟨rfl, S1.out.1⟩
theorem vins_v (k a b : Int) (v : Bool) (w : World) (h : insB k a b = v) : Calls Tryd.prog 17 #[.agg #[.int .u8 k, .int .i64 a, .int .i64 b]] w fun e w' => e = .returned (.bool v) ∧ Below w.heap.size w w' := by
  subst h
  unfold insB
  cases hm : mayB k a b with
  | true => exact vins_m k a b w hm
  | false =>
    rw [Bool.false_or]
    by_cases ha : 0 ≤ a
    · rw [decide_eq_true ha, Bool.true_and]
      exact vins_r k a b _ w hm ha rfl
    · rw [decide_eq_false ha, Bool.false_and]
      exact vins_n k a b w hm (by omega)

theorem okB_0 : okB 0 0 = true := by decide
theorem insB_0 (k : Int) : insB k 0 0 = kB k := by
  simp [insB, mayB, kB, okB_0]
theorem vzero_t (k : Int) (w : World) (h : kB k = true) : Calls Tryd.prog 8 #[.int .u8 k] w fun e w' => e = .returned (.tuple #[.agg #[.int .u8 k, .int .i64 0, .int .i64 0], .bool true]) ∧ Below w.heap.size w w' := by
  have H : Hid (insB k 0 0 = true) := by rw [insB_0]; exact h
  clear h
  go_enter Tryd.func8, Tryd.ntmps8
  go_wp2_with fail
  refine (vins_v _ _ _ _ _ H.out).mono ?_
  rintro e w1 ⟨rfl, hb1⟩
  have S1 := Lib.hid (((Sx.start w).mkV 0 0 0).newV hb1)
  clear hb1
  obtain ⟨-, ⟨y1, y2, y3, y4, -⟩, ⟨z1, z2, z3, z4, z5, z6, z7⟩, -⟩ := S1.out
  simp at y1 y2 y3 y4
  go_wp2_with fail
  exact bodyPost_ret (v := .tuple #[.agg #[.int .u8 k, .int .i64 0, .int .i64 0], .bool true]) (by simp [results, Tryd.results8, go_sem, z2, z3, z4]) rfl ⟨rfl, (below_set2 S1.out.1 (by simp) (by simp) _ _).setCell (by simp) _⟩
theorem vzero_f (k : Int) (w : World) (h : kB k = false) : Calls Tryd.prog 8 #[.int .u8 k] w fun e w' => e = .returned (.tuple #[.agg #[.int .u8 0, .int .i64 0, .int .i64 0], .bool false]) ∧ Below w.heap.size w w' := by
  have H : Hid (insB k 0 0 = false) := by rw [insB_0]; exact h
  clear h
  go_enter Tryd.func8, Tryd.ntmps8
  go_wp2_with fail
  refine (vins_v _ _ _ _ _ H.out).mono ?_
  rintro e w1 ⟨rfl, hb1⟩
  have S1 := Lib.hid (((Sx.start w).mkV 0 0 0).newV hb1)
  clear hb1
  obtain ⟨-, ⟨y1, y2, y3, y4, -⟩, ⟨z1, z2, z3, z4, z5, z6, z7⟩, -⟩ := S1.out
  simp at y1 y2 y3 y4
  go_wp2_with fail
  exact bodyPost_ret (v := .tuple #[.agg #[.int .u8 0, .int .i64 0, .int .i64 0], .bool false]) (by simp [results, Tryd.results8, go_sem, z2, z3, z4]) rfl ⟨rfl, (below_set2 S1.out.1 (by simp) (by simp) _ _).setCell (by simp) _⟩
theorem vzero_v (k : Int) (v : Bool) (w : World) (h : kB k = v) : Calls Tryd.prog 8 #[.int .u8 k] w fun e w' => e = .returned (.tuple #[.agg #[.int .u8 (gX v k), .int .i64 0, .int .i64 0], .bool v]) ∧ Below w.heap.size w w' := by
  cases v with
  | true => exact vzero_t k w h
  | false => exact vzero_f k w h
end Go.Proofs.YtndgiehipajghaaDoor
