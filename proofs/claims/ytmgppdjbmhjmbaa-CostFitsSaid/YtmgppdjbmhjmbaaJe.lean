/-
  Whether a certificate fits: within, cost.Fits, the reference's Fits; law CostFits.
-/
import Derived.Test.YtmgppdjbmhjmbaaJd
import Derived.Test.YtmgppdjbmhjmbaaLm
namespace Go.Proofs.Ytmgppdjbmhjmbaa
open Go.RowKit
set_option maxRecDepth 100000
set_option linter.unusedSimpArgs false
set_option linter.unusedVariables false

abbrev cv (c : Ce) : Value := .agg #[.int .i64 c.1, .int .i64 c.2.1, .int .i64 c.2.2]
theorem within12_v (n a b : Int) (w : World) : Calls Try.prog 11 #[.int .i64 n, .int .i64 a, .int .i64 b] w fun e w' => e = .returned (.bool (wi12 n a b)) ∧ w' = w := by
  by_cases h0 : 0 ≤ n
  · have e0 : decide (0 ≤ n) = true := by simpa using h0
    obtain ⟨v, hv⟩ : ∃ v, wi12 n a b = v := ⟨_, rfl⟩
    have HV : Hid (wi12 n a b = v) := Lib.hid hv
    have HW : Hid (decide (n ≤ min a b) = v) := Lib.hid (by rw [← hv, wi12, e0, Bool.true_and])
    rw [hv]
    clear hv
    go_enter Try.func11, Try.ntmps11
    go_wp2_with fail
    · have h := ‹b < a›
      have HD : Hid (decide (n ≤ b) = v) := Lib.hid (by rw [← HW.out]; congr 1; rw [Int.min_def, if_neg (by omega)])
      go_ret
      exact ⟨by rw [← HD.out]; rfl, rfl⟩
    · have h := ‹a ≤ b›
      have HD : Hid (decide (n ≤ a) = v) := Lib.hid (by rw [← HW.out]; congr 1; rw [Int.min_def, if_pos h])
      go_ret
      exact ⟨by rw [← HD.out]; rfl, rfl⟩
  · have e0 : decide (0 ≤ n) = false := by simpa using h0
    have HW : Hid (wi12 n a b = false) := Lib.hid (by rw [wi12, e0, Bool.false_and])
    go_enter Try.func11, Try.ntmps11
    go_wp2_with fail
    go_ret
    exact ⟨by rw [HW.out]; rfl, rfl⟩
set_option maxHeartbeats 4000000 in
theorem fits12_v (c : Ce) (x : Mc) (m : Mh) (w : World) : Calls Try.prog 6 #[cv c, mv x m] w fun e w' => e = .returned (.bool (fi12 c m)) ∧ Below w.heap.size w w' := by
  obtain ⟨cf, cs, ch⟩ := c
  have HB : Hid (Below w.heap.size w ((w.alloc (.cells #[.int .i64 cf, .int .i64 cs, .int .i64 ch] 23)).alloc (hcel x m))) := Lib.hid (new1.trans (new1.mono (by simp)))
  obtain ⟨v1, h1⟩ : ∃ v, wi12 cf m.f 1048576 = v := ⟨_, rfl⟩
  obtain ⟨v2, h2⟩ : ∃ v, wi12 cs m.s 256 = v := ⟨_, rfl⟩
  obtain ⟨v3, h3⟩ : ∃ v, wi12 ch m.h 1024 = v := ⟨_, rfl⟩
  have HV : Hid (fi12 (cf, cs, ch) m = (v1 && (v2 && v3))) := Lib.hid (by rw [fi12, h1, h2, h3])
  rw [HV.out]
  have H1 := fun w => Lib.hid (within12_v cf m.f 1048576 w)
  have H2 := fun w => Lib.hid (within12_v cs m.s 256 w)
  have H3 := fun w => Lib.hid (within12_v ch m.h 1024 w)
  rw [h1] at H1
  rw [h2] at H2
  rw [h3] at H3
  clear h1 h2 h3
  go_enter Try.func6, Try.ntmps6
  go_upto_region 1 with (fail)
  go_wp2_with fail
  refine (H1 _).out.mono ?_
  rintro e w' ⟨rfl, rfl⟩
  cases v1 with
  | false =>
    go_wp2_with fail
    go_ret
    exact ⟨rfl, HB.out⟩
  | true =>
    go_wp2_with fail
    refine (H2 _).out.mono ?_
    rintro e w' ⟨rfl, rfl⟩
    cases v2 with
    | false =>
      go_wp2_with fail
      go_ret
      exact ⟨rfl, HB.out⟩
    | true =>
      go_wp2_with fail
      refine (H3 _).out.mono ?_
      rintro e w' ⟨rfl, rfl⟩
      go_wp2_with fail
      go_ret
      exact ⟨by simp, HB.out⟩
end Go.Proofs.Ytmgppdjbmhjmbaa
