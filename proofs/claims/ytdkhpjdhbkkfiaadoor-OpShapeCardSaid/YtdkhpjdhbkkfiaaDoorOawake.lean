/-
  That the chapter's examples hold (the statements' 'awake' of layer 4); nothing that was there has changed.
-/
import Derived.Test.YtdkhpjdhbkkfiaaDoorOpm
import Derived.Test.YtdkhpjdhbkkfiaaDoorOpn
import Derived.Test.YtdkhpjdhbkkfiaaDoorOpf
namespace Go.Proofs.YtdkhpjdhbkkfiaaDoor
open Go.RowKit
set_option linter.unusedSimpArgs false
set_option linter.unusedVariables false

theorem bounds_v (n p q : Int) (w : World) (h : opLo n = p ∧ opHi n = q) : Calls Tryd.prog 8 #[.int .u8 n] w fun e w' => e = .returned (.tuple #[.int .i64 p, .int .i64 q]) ∧ w = w' := by
  have := bounds_any n w
  rwa [h.1, h.2] at this
theorem name_v (n : Int) (s : ByteArray) (w : World) (hn : 0 ≤ n) (hw : GN w) (h : opS n = s) : Calls Tryd.prog 12 #[.int .u8 n] w fun e w' => e = .returned (.string s) ∧ w = w' := by
  have := name_any n w hn hw
  rwa [h] at this
theorem known_v (n : Int) (v : Bool) (w : World) (h : opK n = v) : Calls Tryd.prog 10 #[.int .u8 n] w fun e w' => e = .returned (.bool v) ∧ w = w' := by
  have := known_any n w
  rwa [h] at this
theorem leads_v (n : Int) (v : Bool) (w : World) (h : opL n = v) : Calls Tryd.prog 16 #[.int .u8 n] w fun e w' => e = .returned (.bool v) ∧ w = w' := by
  have := leads_any n w
  rwa [h] at this
theorem goes_v (n : Int) (v : Bool) (w : World) (h : opG n = v) : Calls Tryd.prog 18 #[.int .u8 n] w fun e w' => e = .returned (.bool v) ∧ w = w' := by
  have := goes_any n w
  rwa [h] at this
theorem of_f (n : Int) (w : World) (h : fxB n = false) : Calls Tryd.prog 23 #[.int .u8 n] w fun e w' => ∃ A c A' c', e = .returned (.tuple #[.agg #[.slice A 0 c, .slice A' 0 c'], .bool false]) ∧ Below w.heap.size w w' := by
  have := of_any n w
  rw [h, (tk_open h).1, (tk_open h).2] at this
  refine this.mono ?_
  rintro e w1 ⟨A, c, A', c', m, rfl, -, -, -, -, hb⟩
  exact ⟨A, c, A', c', rfl, hb⟩

set_option maxRecDepth 100000 in
set_option maxHeartbeats 2000000 in
theorem oawake_any (w : World) (hw : GN w) : Calls Tryd.prog 22 #[] w fun e w' => e = .returned (.bool true) ∧ Below w.heap.size w w' := by
  have B1 : Hid (opLo 28 = 1 ∧ opHi 28 = 100) := by unfold Hid; decide
  have B2 : Hid (opLo 9 = 0 ∧ opHi 9 = 0) := by unfold Hid; decide
  have M1 : Hid (opM 1 31 0 = true) := by unfold Hid; decide
  have M2 : Hid (opM 1 32 0 = false) := by unfold Hid; decide
  have M3 : Hid (opM 0 0 1 = false) := by unfold Hid; decide
  have N1 : Hid (opS 19 = ⟨#[112, 97, 100, 100]⟩) := by unfold Hid; rfl
  have N2 : Hid (opS 33 = ⟨#[]⟩) := by unfold Hid; rfl
  have F7 : Hid (fxB 7 = false) := by unfold Hid; decide
  have S0 := Lib.hid ((Sx.start w).add fN hw)
  clear hw
  go_enter Tryd.func22, Tryd.ntmps22
  go_wp2_with fail
  refine (bounds_v 28 _ _ _ B1.out).mono ?_
  rintro e w1 ⟨rfl, rfl⟩
  go_wp2_with fail
  refine (bounds_v 9 _ _ _ B2.out).mono ?_
  rintro e w1 ⟨rfl, rfl⟩
  go_wp2_with fail
  refine (of_f 7 _ F7.out).mono ?_
  rintro e w1 ⟨A1, c1, A2, c2, rfl, hb1⟩
  have S1 := Lib.hid ((S0.out.call hb1).mk1 (.cells #[.slice A1 0 c1, .slice A2 0 c2] 37))
  clear S0 hb1
  go_wp2_with fail
  refine (name_v 19 _ _ (by decide) S1.out.2.1 N1.out).mono ?_
  rintro e w2 ⟨rfl, rfl⟩
  go_wp2_with fail
  refine (name_v 33 _ _ (by decide) S1.out.2.1 N2.out).mono ?_
  rintro e w2 ⟨rfl, rfl⟩
  go_wp2_with fail
  refine (omay_v 1 31 0 true _ M1.out).mono ?_
  rintro e w2 ⟨rfl, hb2⟩
  have S2 := Lib.hid (S1.out.call hb2)
  clear hb2 S1
  go_wp2_with fail
  refine (omay_v 1 32 0 false _ M2.out).mono ?_
  rintro e w3 ⟨rfl, hb3⟩
  have S3 := Lib.hid (S2.out.call hb3)
  clear hb3 S2
  go_wp2_with fail
  refine (omay_v 0 0 1 false _ M3.out).mono ?_
  rintro e w4 ⟨rfl, hb4⟩
  have S4 := Lib.hid (S3.out.call hb4)
  clear hb4 S3
  go_wp2_with fail
  go_ret
  exact ⟨rfl, S4.out.1⟩
end Go.Proofs.YtdkhpjdhbkkfiaaDoor
