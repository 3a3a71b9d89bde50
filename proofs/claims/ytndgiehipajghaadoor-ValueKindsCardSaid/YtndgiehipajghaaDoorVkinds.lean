/-
  The walk of ValueKinds: for every value it returns true; nothing that was there has changed.
-/
import Derived.Test.YtndgiehipajghaaDoorVawake
namespace Go.Proofs.YtndgiehipajghaaDoor
open Go.RowKit
set_option linter.unusedSimpArgs false
set_option linter.unusedVariables false

set_option maxRecDepth 100000 in
set_option maxHeartbeats 2000000 in
theorem kinds_1m (a b : Int) (w : World) (hw : GW w) (hm : mayB 1 a b = true) : Calls Tryd.prog 7 #[.agg #[.int .u8 1, .int .i64 a, .int .i64 b]] w fun e w' => e = .returned (.bool true) ∧ Below w.heap.size w w' := by
  have HM := Lib.hid hm
  have HI : Hid (insB 1 a b = true) := by simp [Hid, insB, hm]
  have HZ : Hid (kB 1 = true) := by unfold Hid; decide
  have q1 := eq_val 9998 0 0 0 0 0 0 true (by simp)
  have H0 : Hid (insB 1 0 0 = true) := by rw [Hid, insB_0]; decide
  clear q1
  have G := Lib.hid hw
  clear hw hm
  go_enter Tryd.func7, Tryd.ntmps7
  go_wp2_with fail
  refine (awake_any _ (GW.keep G.out new1)).mono ?_
  rintro e w1 ⟨rfl, hb1⟩
  have S1 := Lib.hid (((Sx.start w).add fG G.out).newV hb1)
  clear hb1 G
  obtain ⟨-, ⟨y0, y1, y2, y3, -⟩, -⟩ := S1.out
  go_wp2_with fail
  refine (vzero_t 1 _ HZ.out).mono ?_
  rintro e w2 ⟨rfl, hb2⟩
  clear y0 y1 y2 y3
  have S2 := Lib.hid ((S1.out.call hb2).mkV 1 0 0)
  clear hb2 S1
  obtain ⟨-, ⟨z0, z1, z2, z3, -⟩, ⟨y0, y1, y2, y3, -⟩, -⟩ := S2.out
  simp at z0 z1 z2 z3 y0
  go_wp2_with fail
  refine (vins_v 1 0 0 true _ H0.out).mono ?_
  rintro e w3 ⟨rfl, hb3⟩
  clear z0 z1 z2 z3 y0 y1 y2 y3
  have S3 := Lib.hid (S2.out.call hb3)
  clear hb3 S2
  obtain ⟨-, ⟨z0, z1, z2, z3, -⟩, ⟨y0, y1, y2, y3, -⟩, -⟩ := S3.out
  go_wp2_with fail
  refine (vmay_v 1 a b true _ HM.out).mono ?_
  rintro e w4 ⟨rfl, hb4⟩
  clear z0 z1 z2 z3 y0 y1 y2 y3
  have S4 := Lib.hid (S3.out.call hb4)
  clear hb4 S3
  obtain ⟨-, ⟨z0, z1, z2, z3, -⟩, ⟨y0, y1, y2, y3, -⟩, -⟩ := S4.out
  go_wp2_with fail
  refine (vins_v 1 a b true _ HI.out).mono ?_
  rintro e w5 ⟨rfl, hb5⟩
  clear z0 z1 z2 z3 y0 y1 y2 y3
  have S5 := Lib.hid (S4.out.call hb5)
  clear hb5 S4
  obtain ⟨-, ⟨z0, z1, z2, z3, -⟩, ⟨y0, y1, y2, y3, -⟩, -⟩ := S5.out
  go_wp2_with fail
  refine (vmay_v 1 a b true _ HM.out).mono ?_
  rintro e w6 ⟨rfl, hb6⟩
  clear z0 z1 z2 z3 y0 y1 y2 y3
  have S6 := Lib.hid (S5.out.call hb6)
  clear hb6 S5
  obtain ⟨-, ⟨z0, z1, z2, z3, -⟩, ⟨y0, y1, y2, y3, -⟩, -⟩ := S6.out
  go_wp2_with fail
  go_ret
  exact ⟨rfl, S6.out.1⟩
set_option maxRecDepth 100000 in
set_option maxHeartbeats 2000000 in
theorem kinds_1n (a b : Int) (w : World) (hw : GW w) (hm : mayB 1 a b = false) : Calls Tryd.prog 7 #[.agg #[.int .u8 1, .int .i64 a, .int .i64 b]] w fun e w' => e = .returned (.bool true) ∧ Below w.heap.size w w' := by
  have HM := Lib.hid hm
  have HI : Hid (insB 1 a b = false) := by simp [Hid, insB, hm]
  have HZ : Hid (kB 1 = true) := by unfold Hid; decide
  have q1 := eq_val 9998 0 0 0 0 0 0 true (by simp)
  have H0 : Hid (insB 1 0 0 = true) := by rw [Hid, insB_0]; decide
  clear q1
  have G := Lib.hid hw
  clear hw hm
  go_enter Tryd.func7, Tryd.ntmps7
  go_wp2_with fail
  refine (awake_any _ (GW.keep G.out new1)).mono ?_
  rintro e w1 ⟨rfl, hb1⟩
  have S1 := Lib.hid (((Sx.start w).add fG G.out).newV hb1)
  clear hb1 G
  obtain ⟨-, ⟨y0, y1, y2, y3, -⟩, -⟩ := S1.out
  go_wp2_with fail
  refine (vzero_t 1 _ HZ.out).mono ?_
  rintro e w2 ⟨rfl, hb2⟩
  clear y0 y1 y2 y3
  have S2 := Lib.hid ((S1.out.call hb2).mkV 1 0 0)
  clear hb2 S1
  obtain ⟨-, ⟨z0, z1, z2, z3, -⟩, ⟨y0, y1, y2, y3, -⟩, -⟩ := S2.out
  simp at z0 z1 z2 z3 y0
  go_wp2_with fail
  refine (vins_v 1 0 0 true _ H0.out).mono ?_
  rintro e w3 ⟨rfl, hb3⟩
  clear z0 z1 z2 z3 y0 y1 y2 y3
  have S3 := Lib.hid (S2.out.call hb3)
  clear hb3 S2
  obtain ⟨-, ⟨z0, z1, z2, z3, -⟩, ⟨y0, y1, y2, y3, -⟩, -⟩ := S3.out
  go_wp2_with fail
  refine (vmay_v 1 a b false _ HM.out).mono ?_
  rintro e w4 ⟨rfl, hb4⟩
  clear z0 z1 z2 z3 y0 y1 y2 y3
  have S4 := Lib.hid (S3.out.call hb4)
  clear hb4 S3
  obtain ⟨-, ⟨z0, z1, z2, z3, -⟩, ⟨y0, y1, y2, y3, -⟩, -⟩ := S4.out
  go_wp2_with fail
  refine (vmay_v 1 a b false _ HM.out).mono ?_
  rintro e w5 ⟨rfl, hb5⟩
  clear z0 z1 z2 z3 y0 y1 y2 y3
  have S5 := Lib.hid (S4.out.call hb5)
  clear hb5 S4
  obtain ⟨-, ⟨z0, z1, z2, z3, -⟩, ⟨y0, y1, y2, y3, -⟩, -⟩ := S5.out
  go_wp2_with fail
  refine (vins_v 1 a b false _ HI.out).mono ?_
  rintro e w6 ⟨rfl, hb6⟩
  clear z0 z1 z2 z3 y0 y1 y2 y3
  have S6 := Lib.hid (S5.out.call hb6)
  clear hb6 S5
  obtain ⟨-, ⟨z0, z1, z2, z3, -⟩, ⟨y0, y1, y2, y3, -⟩, -⟩ := S6.out
  go_wp2_with fail
  go_ret
  exact ⟨rfl, S6.out.1⟩
set_option maxRecDepth 100000 in
set_option maxHeartbeats 2000000 in
theorem kinds_2m (a b : Int) (w : World) (hw : GW w) (hm : mayB 2 a b = true) : Calls Tryd.prog 7 #[.agg #[.int .u8 2, .int .i64 a, .int .i64 b]] w fun e w' => e = .returned (.bool true) ∧ Below w.heap.size w w' := by
  have HM := Lib.hid hm
  have HI : Hid (insB 2 a b = true) := by simp [Hid, insB, hm]
  have HZ : Hid (kB 2 = true) := by unfold Hid; decide
  have q1 := eq_val 9998 0 0 0 0 0 0 true (by simp)
  have H0 : Hid (insB 2 0 0 = true) := by rw [Hid, insB_0]; decide
  clear q1
  have G := Lib.hid hw
  clear hw hm
  go_enter Tryd.func7, Tryd.ntmps7
  go_wp2_with fail
  refine (awake_any _ (GW.keep G.out new1)).mono ?_
  rintro e w1 ⟨rfl, hb1⟩
  have S1 := Lib.hid (((Sx.start w).add fG G.out).newV hb1)
  clear hb1 G
  obtain ⟨-, ⟨y0, y1, y2, y3, -⟩, -⟩ := S1.out
  go_wp2_with fail
  refine (vzero_t 2 _ HZ.out).mono ?_
  rintro e w2 ⟨rfl, hb2⟩
  clear y0 y1 y2 y3
  have S2 := Lib.hid ((S1.out.call hb2).mkV 2 0 0)
  clear hb2 S1
  obtain ⟨-, ⟨z0, z1, z2, z3, -⟩, ⟨y0, y1, y2, y3, -⟩, -⟩ := S2.out
  simp at z0 z1 z2 z3 y0
  go_wp2_with fail
  refine (vins_v 2 0 0 true _ H0.out).mono ?_
  rintro e w3 ⟨rfl, hb3⟩
  clear z0 z1 z2 z3 y0 y1 y2 y3
  have S3 := Lib.hid (S2.out.call hb3)
  clear hb3 S2
  obtain ⟨-, ⟨z0, z1, z2, z3, -⟩, ⟨y0, y1, y2, y3, -⟩, -⟩ := S3.out
  go_wp2_with fail
  refine (vmay_v 2 a b true _ HM.out).mono ?_
  rintro e w4 ⟨rfl, hb4⟩
  clear z0 z1 z2 z3 y0 y1 y2 y3
  have S4 := Lib.hid (S3.out.call hb4)
  clear hb4 S3
  obtain ⟨-, ⟨z0, z1, z2, z3, -⟩, ⟨y0, y1, y2, y3, -⟩, -⟩ := S4.out
  go_wp2_with fail
  refine (vins_v 2 a b true _ HI.out).mono ?_
  rintro e w5 ⟨rfl, hb5⟩
  clear z0 z1 z2 z3 y0 y1 y2 y3
  have S5 := Lib.hid (S4.out.call hb5)
  clear hb5 S4
  obtain ⟨-, ⟨z0, z1, z2, z3, -⟩, ⟨y0, y1, y2, y3, -⟩, -⟩ := S5.out
  go_wp2_with fail
  refine (vmay_v 2 a b true _ HM.out).mono ?_
  rintro e w6 ⟨rfl, hb6⟩
  clear z0 z1 z2 z3 y0 y1 y2 y3
  have S6 := Lib.hid (S5.out.call hb6)
  clear hb6 S5
  obtain ⟨-, ⟨z0, z1, z2, z3, -⟩, ⟨y0, y1, y2, y3, -⟩, -⟩ := S6.out
  go_wp2_with fail
  go_ret
  exact ⟨rfl, S6.out.1⟩
set_option maxRecDepth 100000 in
set_option maxHeartbeats 2000000 in
theorem kinds_2n (a b : Int) (w : World) (hw : GW w) (hm : mayB 2 a b = false) : Calls Tryd.prog 7 #[.agg #[.int .u8 2, .int .i64 a, .int .i64 b]] w fun e w' => e = .returned (.bool true) ∧ Below w.heap.size w w' := by
  have HM := Lib.hid hm
  have HI : Hid (insB 2 a b = false) := by simp [Hid, insB, hm]
  have HZ : Hid (kB 2 = true) := by unfold Hid; decide
  have q1 := eq_val 9998 0 0 0 0 0 0 true (by simp)
  have H0 : Hid (insB 2 0 0 = true) := by rw [Hid, insB_0]; decide
  clear q1
  have G := Lib.hid hw
  clear hw hm
  go_enter Tryd.func7, Tryd.ntmps7
  go_wp2_with fail
  refine (awake_any _ (GW.keep G.out new1)).mono ?_
  rintro e w1 ⟨rfl, hb1⟩
  have S1 := Lib.hid (((Sx.start w).add fG G.out).newV hb1)
  clear hb1 G
  obtain ⟨-, ⟨y0, y1, y2, y3, -⟩, -⟩ := S1.out
  go_wp2_with fail
  refine (vzero_t 2 _ HZ.out).mono ?_
  rintro e w2 ⟨rfl, hb2⟩
  clear y0 y1 y2 y3
  have S2 := Lib.hid ((S1.out.call hb2).mkV 2 0 0)
  clear hb2 S1
  obtain ⟨-, ⟨z0, z1, z2, z3, -⟩, ⟨y0, y1, y2, y3, -⟩, -⟩ := S2.out
  simp at z0 z1 z2 z3 y0
  go_wp2_with fail
  refine (vins_v 2 0 0 true _ H0.out).mono ?_
  rintro e w3 ⟨rfl, hb3⟩
  clear z0 z1 z2 z3 y0 y1 y2 y3
  have S3 := Lib.hid (S2.out.call hb3)
  clear hb3 S2
  obtain ⟨-, ⟨z0, z1, z2, z3, -⟩, ⟨y0, y1, y2, y3, -⟩, -⟩ := S3.out
  go_wp2_with fail
  refine (vmay_v 2 a b false _ HM.out).mono ?_
  rintro e w4 ⟨rfl, hb4⟩
  clear z0 z1 z2 z3 y0 y1 y2 y3
  have S4 := Lib.hid (S3.out.call hb4)
  clear hb4 S3
  obtain ⟨-, ⟨z0, z1, z2, z3, -⟩, ⟨y0, y1, y2, y3, -⟩, -⟩ := S4.out
  go_wp2_with fail
  refine (vmay_v 2 a b false _ HM.out).mono ?_
  rintro e w5 ⟨rfl, hb5⟩
  clear z0 z1 z2 z3 y0 y1 y2 y3
  have S5 := Lib.hid (S4.out.call hb5)
  clear hb5 S4
  obtain ⟨-, ⟨z0, z1, z2, z3, -⟩, ⟨y0, y1, y2, y3, -⟩, -⟩ := S5.out
  go_wp2_with fail
  refine (vins_v 2 a b false _ HI.out).mono ?_
  rintro e w6 ⟨rfl, hb6⟩
  clear z0 z1 z2 z3 y0 y1 y2 y3
  have S6 := Lib.hid (S5.out.call hb6)
  clear hb6 S5
  obtain ⟨-, ⟨z0, z1, z2, z3, -⟩, ⟨y0, y1, y2, y3, -⟩, -⟩ := S6.out
  go_wp2_with fail
  go_ret
  exact ⟨rfl, S6.out.1⟩
set_option maxRecDepth 100000 in
set_option maxHeartbeats 2000000 in
theorem kinds_3n (a b : Int) (w : World) (hw : GW w) (hm : mayB 3 a b = false) : Calls Tryd.prog 7 #[.agg #[.int .u8 3, .int .i64 a, .int .i64 b]] w fun e w' => e = .returned (.bool true) ∧ Below w.heap.size w w' := by
  have HM := Lib.hid hm
  have HZ : Hid (kB 3 = true) := by unfold Hid; decide
  have q1 := eq_val 9998 0 0 0 0 0 0 true (by simp)
  have H0 : Hid (insB 3 0 0 = true) := by rw [Hid, insB_0]; decide
  clear q1
  have G := Lib.hid hw
  clear hw hm
  go_enter Tryd.func7, Tryd.ntmps7
  go_wp2_with fail
  refine (awake_any _ (GW.keep G.out new1)).mono ?_
  rintro e w1 ⟨rfl, hb1⟩
  have S1 := Lib.hid (((Sx.start w).add fG G.out).newV hb1)
  clear hb1 G
  obtain ⟨-, ⟨y0, y1, y2, y3, -⟩, -⟩ := S1.out
  go_wp2_with fail
  refine (vzero_t 3 _ HZ.out).mono ?_
  rintro e w2 ⟨rfl, hb2⟩
  clear y0 y1 y2 y3
  have S2 := Lib.hid ((S1.out.call hb2).mkV 3 0 0)
  clear hb2 S1
  obtain ⟨-, ⟨z0, z1, z2, z3, -⟩, ⟨y0, y1, y2, y3, -⟩, -⟩ := S2.out
  simp at z0 z1 z2 z3 y0
  go_wp2_with fail
  refine (vins_v 3 0 0 true _ H0.out).mono ?_
  rintro e w3 ⟨rfl, hb3⟩
  clear z0 z1 z2 z3 y0 y1 y2 y3
  have S3 := Lib.hid (S2.out.call hb3)
  clear hb3 S2
  obtain ⟨-, ⟨z0, z1, z2, z3, -⟩, ⟨y0, y1, y2, y3, -⟩, -⟩ := S3.out
  go_wp2_with fail
  refine (vmay_v 3 a b false _ HM.out).mono ?_
  rintro e w4 ⟨rfl, hb4⟩
  clear z0 z1 z2 z3 y0 y1 y2 y3
  have S4 := Lib.hid (S3.out.call hb4)
  clear hb4 S3
  obtain ⟨-, ⟨z0, z1, z2, z3, -⟩, ⟨y0, y1, y2, y3, -⟩, -⟩ := S4.out
  go_wp2_with fail
  refine (vmay_v 3 a b false _ HM.out).mono ?_
  rintro e w5 ⟨rfl, hb5⟩
  clear z0 z1 z2 z3 y0 y1 y2 y3
  have S5 := Lib.hid (S4.out.call hb5)
  clear hb5 S4
  obtain ⟨-, ⟨z0, z1, z2, z3, -⟩, ⟨y0, y1, y2, y3, -⟩, -⟩ := S5.out
  go_wp2_with fail
  refine (vmay_v 3 a b false _ HM.out).mono ?_
  rintro e w6 ⟨rfl, hb6⟩
  clear z0 z1 z2 z3 y0 y1 y2 y3
  have S6 := Lib.hid (S5.out.call hb6)
  clear hb6 S5
  obtain ⟨-, ⟨z0, z1, z2, z3, -⟩, ⟨y0, y1, y2, y3, -⟩, -⟩ := S6.out
  go_wp2_with fail
  go_ret
  exact ⟨rfl, S6.out.1⟩
set_option maxRecDepth 100000 in
set_option maxHeartbeats 2000000 in
theorem kinds_kn (k a b : Int) (w : World) (hw : GW w) (hm : mayB k a b = false) (e1 : (k == 1) = false) (e2 : (k == 2) = false) (e3 : (k == 3) = false) : Calls Tryd.prog 7 #[.agg #[.int .u8 k, .int .i64 a, .int .i64 b]] w fun e w' => e = .returned (.bool true) ∧ Below w.heap.size w w' := by
  have HM := Lib.hid hm
  have HI : Hid (insB k a b = false) := by simp [Hid, insB, hm, e3]
  have HZ : Hid (kB k = false) := by simp [Hid, kB, e1, e2, e3]
  have q1 := eq_val 9998 0 0 0 0 0 0 true (by simp)
  have f1 : (k != 3) = true := by simpa using e3
  have G := Lib.hid hw
  clear hw hm
  go_enter Tryd.func7, Tryd.ntmps7
  go_wp2_with fail
  refine (awake_any _ (GW.keep G.out new1)).mono ?_
  rintro e w1 ⟨rfl, hb1⟩
  have S1 := Lib.hid (((Sx.start w).add fG G.out).newV hb1)
  clear hb1 G
  obtain ⟨-, ⟨y0, y1, y2, y3, -⟩, -⟩ := S1.out
  go_wp2_with fail
  refine (vzero_f k _ HZ.out).mono ?_
  rintro e w2 ⟨rfl, hb2⟩
  clear y0 y1 y2 y3
  have S2 := Lib.hid ((S1.out.call hb2).mkV 0 0 0)
  clear hb2 S1
  obtain ⟨-, ⟨z0, z1, z2, z3, -⟩, ⟨y0, y1, y2, y3, -⟩, -⟩ := S2.out
  simp at z0 z1 z2 z3 y0
  go_wp2_with fail
  refine (vins_v k a b false _ HI.out).mono ?_
  rintro e w3 ⟨rfl, hb3⟩
  clear z0 z1 z2 z3 y0 y1 y2 y3
  have S3 := Lib.hid (S2.out.call hb3)
  clear hb3 S2
  obtain ⟨-, ⟨z0, z1, z2, z3, -⟩, ⟨y0, y1, y2, y3, -⟩, -⟩ := S3.out
  go_wp2_with fail
  refine (vmay_v k a b false _ HM.out).mono ?_
  rintro e w4 ⟨rfl, hb4⟩
  clear z0 z1 z2 z3 y0 y1 y2 y3
  have S4 := Lib.hid (S3.out.call hb4)
  clear hb4 S3
  obtain ⟨-, ⟨z0, z1, z2, z3, -⟩, ⟨y0, y1, y2, y3, -⟩, -⟩ := S4.out
  go_wp2_with fail
  refine (vmay_v k a b false _ HM.out).mono ?_
  rintro e w5 ⟨rfl, hb5⟩
  clear z0 z1 z2 z3 y0 y1 y2 y3
  have S5 := Lib.hid (S4.out.call hb5)
  clear hb5 S4
  obtain ⟨-, ⟨z0, z1, z2, z3, -⟩, ⟨y0, y1, y2, y3, -⟩, -⟩ := S5.out
  go_wp2_with fail
  refine (vins_v k a b false _ HI.out).mono ?_
  rintro e w6 ⟨rfl, hb6⟩
  clear z0 z1 z2 z3 y0 y1 y2 y3
  have S6 := Lib.hid (S5.out.call hb6)
  clear hb6 S5
  obtain ⟨-, ⟨z0, z1, z2, z3, -⟩, ⟨y0, y1, y2, y3, -⟩, -⟩ := S6.out
  go_wp2_with fail
  go_ret
  exact ⟨rfl, S6.out.1⟩
theorem kinds_walk (k a b : Int) (w : World) (hw : GW w) : Calls Tryd.prog 7 #[.agg #[.int .u8 k, .int .i64 a, .int .i64 b]] w fun e w' => e = .returned (.bool true) ∧ Below w.heap.size w w' := by
  by_cases h1 : k = 1
  · subst h1
    cases hm : mayB 1 a b with
    | true => exact kinds_1m a b w hw hm
    | false => exact kinds_1n a b w hw hm
  · by_cases h2 : k = 2
    · subst h2
      cases hm : mayB 2 a b with
      | true => exact kinds_2m a b w hw hm
      | false => exact kinds_2n a b w hw hm
    · have hm : mayB k a b = false := by simp [mayB, h1, h2]
      by_cases h3 : k = 3
      · subst h3
        exact kinds_3n a b w hw hm
      · exact kinds_kn k a b w hw hm (by simpa using h1) (by simpa using h2) (by simpa using h3)
end Go.Proofs.YtndgiehipajghaaDoor
