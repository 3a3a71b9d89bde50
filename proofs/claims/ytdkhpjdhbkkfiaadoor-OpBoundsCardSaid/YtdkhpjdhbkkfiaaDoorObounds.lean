/-
  The walk of OpBounds: for every instruction and number it returns true; nothing that was there has changed.
-/
import Derived.Test.YtdkhpjdhbkkfiaaDoorOawake
namespace Go.Proofs.YtdkhpjdhbkkfiaaDoor
open Go.RowKit
set_option linter.unusedSimpArgs false
set_option linter.unusedVariables false

theorem after_set {w w1 : World} {n x y : Int} {o : Nat} {v : Value} (hw : GN w) (hb : Below w.heap.size w w1) (h : In (w1.setCell ⟨w.heap.size, o, none⟩ v) w.heap.size n x y) : Sx w (w1.setCell ⟨w.heap.size, o, none⟩ v) [fI w.heap.size n x y, fN] :=
  have hb' := hb.setCell (p := ⟨w.heap.size, o, none⟩) (Nat.le_refl _) v
  ⟨hb', h, hw.keep hb', trivial⟩
set_option maxRecDepth 100000 in
set_option maxHeartbeats 2000000 in
theorem obounds_kmin (n x y a : Int) (p q : Int) (w : World) (hw : GN w) (hk : opK n = true) (hb : opLo n = p ∧ opHi n = q) (h1 : opM n x 0 = true) (h2 : opM n a 0 = true) (h3 : opM n a 1 = false) (h0 : 0 ≤ p ∧ p ≤ q ∧ q ≤ 1024) (ha : p ≤ a ∧ a ≤ q) :
    Calls Tryd.prog 6 #[.agg #[.int .u8 n, .int .i64 x, .int .i64 y], .int .i64 a] w fun e w' => e = .returned (.bool true) ∧ Below w.heap.size w w' := by
  have HK := Lib.hid hk
  have HB := Lib.hid hb
  have H1 := Lib.hid h1
  have H2 := Lib.hid h2
  have H3 := Lib.hid h3
  have HW := Lib.hid hw
  have S0 := Lib.hid (((Sx.start w).add fN hw).mk1 (.cells #[.int .u8 n, .int .i64 x, .int .i64 y] 23))
  have S1 := Lib.hid (S0.out.add (fI w.heap.size n x y) (In.new w n x y))
  clear hk hb h1 h2 h3 hw S0
  go_enter Tryd.func6, Tryd.ntmps6
  go_wp2_with fail
  refine (oawake_any _ S1.out.2.2.1).mono ?_
  rintro e w2 ⟨rfl, hb2⟩
  have S2 := Lib.hid (S1.out.call hb2)
  clear hb2 S1
  obtain ⟨-, ⟨z0, z1, z2, z3, z4, z5, z6⟩, -⟩ := S2.out
  go_wp2_with fail
  refine (bounds_v n _ _ _ HB.out).mono ?_
  rintro e w3 ⟨rfl, rfl⟩
  go_wp2_with fail
  refine (known_v n _ _ HK.out).mono ?_
  rintro e w3 ⟨rfl, rfl⟩
  go_wp2_with fail
  refine (known_v n _ _ HK.out).mono ?_
  rintro e w3 ⟨rfl, rfl⟩
  have T3 := Lib.hid (after_set HW.out S2.out.1 (In.set2 S2.out.2.1 0))
  clear S2
  go_wp2_with fail
  refine (omay_v n x 0 _ _ H1.out).mono ?_
  rintro e w4 ⟨rfl, hb4⟩
  have S4 := Lib.hid (T3.out.call hb4)
  clear hb4 T3 z0 z1 z2 z3 z4 z5 z6
  obtain ⟨-, ⟨z0, z1, z2, z3, z4, z5, z6⟩, -⟩ := S4.out
  have T5 := Lib.hid (after_set HW.out S4.out.1 (In.set1 S4.out.2.1 a))
  clear S4
  go_wp2_with fail
  refine (omay_v n a 0 _ _ H2.out).mono ?_
  rintro e w6 ⟨rfl, hb6⟩
  have S6 := Lib.hid (T5.out.call hb6)
  clear hb6 T5 z0 z1 z2 z3 z4 z5 z6
  obtain ⟨-, ⟨z0, z1, z2, z3, z4, z5, z6⟩, -⟩ := S6.out
  have T7 := Lib.hid (after_set HW.out S6.out.1 (In.set2 S6.out.2.1 1))
  clear S6
  go_wp2_with fail
  refine (known_v n _ _ HK.out).mono ?_
  rintro e w7 ⟨rfl, rfl⟩
  go_wp2_with fail
  refine (omay_v n a 1 _ _ H3.out).mono ?_
  rintro e w8 ⟨rfl, hb8⟩
  have S8 := Lib.hid (T7.out.call hb8)
  clear hb8 T7 z0 z1 z2 z3 z4 z5 z6
  go_wp2_with fail
  go_ret
  exact ⟨rfl, S8.out.1⟩
set_option maxRecDepth 100000 in
set_option maxHeartbeats 2000000 in
theorem obounds_kmlo (n x y a : Int) (p q : Int) (w : World) (hw : GN w) (hk : opK n = true) (hb : opLo n = p ∧ opHi n = q) (h1 : opM n x 0 = true) (h2 : opM n a 0 = false) (h3 : opM n a 1 = false) (h0 : 0 ≤ p ∧ p ≤ q ∧ q ≤ 1024) (ha : a < p) :
    Calls Tryd.prog 6 #[.agg #[.int .u8 n, .int .i64 x, .int .i64 y], .int .i64 a] w fun e w' => e = .returned (.bool true) ∧ Below w.heap.size w w' := by
  have HK := Lib.hid hk
  have HB := Lib.hid hb
  have H1 := Lib.hid h1
  have H2 := Lib.hid h2
  have H3 := Lib.hid h3
  have HW := Lib.hid hw
  have S0 := Lib.hid (((Sx.start w).add fN hw).mk1 (.cells #[.int .u8 n, .int .i64 x, .int .i64 y] 23))
  have S1 := Lib.hid (S0.out.add (fI w.heap.size n x y) (In.new w n x y))
  clear hk hb h1 h2 h3 hw S0
  go_enter Tryd.func6, Tryd.ntmps6
  go_wp2_with fail
  refine (oawake_any _ S1.out.2.2.1).mono ?_
  rintro e w2 ⟨rfl, hb2⟩
  have S2 := Lib.hid (S1.out.call hb2)
  clear hb2 S1
  obtain ⟨-, ⟨z0, z1, z2, z3, z4, z5, z6⟩, -⟩ := S2.out
  go_wp2_with fail
  refine (bounds_v n _ _ _ HB.out).mono ?_
  rintro e w3 ⟨rfl, rfl⟩
  go_wp2_with fail
  refine (known_v n _ _ HK.out).mono ?_
  rintro e w3 ⟨rfl, rfl⟩
  go_wp2_with fail
  refine (known_v n _ _ HK.out).mono ?_
  rintro e w3 ⟨rfl, rfl⟩
  have T3 := Lib.hid (after_set HW.out S2.out.1 (In.set2 S2.out.2.1 0))
  clear S2
  go_wp2_with fail
  refine (omay_v n x 0 _ _ H1.out).mono ?_
  rintro e w4 ⟨rfl, hb4⟩
  have S4 := Lib.hid (T3.out.call hb4)
  clear hb4 T3 z0 z1 z2 z3 z4 z5 z6
  obtain ⟨-, ⟨z0, z1, z2, z3, z4, z5, z6⟩, -⟩ := S4.out
  have T5 := Lib.hid (after_set HW.out S4.out.1 (In.set1 S4.out.2.1 a))
  clear S4
  go_wp2_with fail
  refine (omay_v n a 0 _ _ H2.out).mono ?_
  rintro e w6 ⟨rfl, hb6⟩
  have S6 := Lib.hid (T5.out.call hb6)
  clear hb6 T5 z0 z1 z2 z3 z4 z5 z6
  obtain ⟨-, ⟨z0, z1, z2, z3, z4, z5, z6⟩, -⟩ := S6.out
  have T7 := Lib.hid (after_set HW.out S6.out.1 (In.set2 S6.out.2.1 1))
  clear S6
  go_wp2_with fail
  refine (known_v n _ _ HK.out).mono ?_
  rintro e w7 ⟨rfl, rfl⟩
  go_wp2_with fail
  refine (omay_v n a 1 _ _ H3.out).mono ?_
  rintro e w8 ⟨rfl, hb8⟩
  have S8 := Lib.hid (T7.out.call hb8)
  clear hb8 T7 z0 z1 z2 z3 z4 z5 z6
  go_wp2_with fail
  go_ret
  exact ⟨rfl, S8.out.1⟩
set_option maxRecDepth 100000 in
set_option maxHeartbeats 2000000 in
theorem obounds_kmhi (n x y a : Int) (p q : Int) (w : World) (hw : GN w) (hk : opK n = true) (hb : opLo n = p ∧ opHi n = q) (h1 : opM n x 0 = true) (h2 : opM n a 0 = false) (h3 : opM n a 1 = false) (h0 : 0 ≤ p ∧ p ≤ q ∧ q ≤ 1024) (ha : p ≤ a ∧ q < a) :
    Calls Tryd.prog 6 #[.agg #[.int .u8 n, .int .i64 x, .int .i64 y], .int .i64 a] w fun e w' => e = .returned (.bool true) ∧ Below w.heap.size w w' := by
  have HK := Lib.hid hk
  have HB := Lib.hid hb
  have H1 := Lib.hid h1
  have H2 := Lib.hid h2
  have H3 := Lib.hid h3
  have HW := Lib.hid hw
  have S0 := Lib.hid (((Sx.start w).add fN hw).mk1 (.cells #[.int .u8 n, .int .i64 x, .int .i64 y] 23))
  have S1 := Lib.hid (S0.out.add (fI w.heap.size n x y) (In.new w n x y))
  clear hk hb h1 h2 h3 hw S0
  go_enter Tryd.func6, Tryd.ntmps6
  go_wp2_with fail
  refine (oawake_any _ S1.out.2.2.1).mono ?_
  rintro e w2 ⟨rfl, hb2⟩
  have S2 := Lib.hid (S1.out.call hb2)
  clear hb2 S1
  obtain ⟨-, ⟨z0, z1, z2, z3, z4, z5, z6⟩, -⟩ := S2.out
  go_wp2_with fail
  refine (bounds_v n _ _ _ HB.out).mono ?_
  rintro e w3 ⟨rfl, rfl⟩
  go_wp2_with fail
  refine (known_v n _ _ HK.out).mono ?_
  rintro e w3 ⟨rfl, rfl⟩
  go_wp2_with fail
  refine (known_v n _ _ HK.out).mono ?_
  rintro e w3 ⟨rfl, rfl⟩
  have T3 := Lib.hid (after_set HW.out S2.out.1 (In.set2 S2.out.2.1 0))
  clear S2
  go_wp2_with fail
  refine (omay_v n x 0 _ _ H1.out).mono ?_
  rintro e w4 ⟨rfl, hb4⟩
  have S4 := Lib.hid (T3.out.call hb4)
  clear hb4 T3 z0 z1 z2 z3 z4 z5 z6
  obtain ⟨-, ⟨z0, z1, z2, z3, z4, z5, z6⟩, -⟩ := S4.out
  have T5 := Lib.hid (after_set HW.out S4.out.1 (In.set1 S4.out.2.1 a))
  clear S4
  go_wp2_with fail
  refine (omay_v n a 0 _ _ H2.out).mono ?_
  rintro e w6 ⟨rfl, hb6⟩
  have S6 := Lib.hid (T5.out.call hb6)
  clear hb6 T5 z0 z1 z2 z3 z4 z5 z6
  obtain ⟨-, ⟨z0, z1, z2, z3, z4, z5, z6⟩, -⟩ := S6.out
  have T7 := Lib.hid (after_set HW.out S6.out.1 (In.set2 S6.out.2.1 1))
  clear S6
  go_wp2_with fail
  refine (known_v n _ _ HK.out).mono ?_
  rintro e w7 ⟨rfl, rfl⟩
  go_wp2_with fail
  refine (omay_v n a 1 _ _ H3.out).mono ?_
  rintro e w8 ⟨rfl, hb8⟩
  have S8 := Lib.hid (T7.out.call hb8)
  clear hb8 T7 z0 z1 z2 z3 z4 z5 z6
  go_wp2_with fail
  go_ret
  have hq : ¬ a ≤ q := by omega
  refine ⟨?_, S8.out.1⟩
  simp [go_sem, hq]
set_option maxRecDepth 100000 in
set_option maxHeartbeats 2000000 in
theorem obounds_knin (n x y a : Int) (p q : Int) (w : World) (hw : GN w) (hk : opK n = true) (hb : opLo n = p ∧ opHi n = q) (h1 : opM n x 0 = false) (h2 : opM n a 0 = true) (h3 : opM n a 1 = false) (h0 : 0 ≤ p ∧ p ≤ q ∧ q ≤ 1024) (ha : p ≤ a ∧ a ≤ q) :
    Calls Tryd.prog 6 #[.agg #[.int .u8 n, .int .i64 x, .int .i64 y], .int .i64 a] w fun e w' => e = .returned (.bool true) ∧ Below w.heap.size w w' := by
  have HK := Lib.hid hk
  have HB := Lib.hid hb
  have H1 := Lib.hid h1
  have H2 := Lib.hid h2
  have H3 := Lib.hid h3
  have HW := Lib.hid hw
  have S0 := Lib.hid (((Sx.start w).add fN hw).mk1 (.cells #[.int .u8 n, .int .i64 x, .int .i64 y] 23))
  have S1 := Lib.hid (S0.out.add (fI w.heap.size n x y) (In.new w n x y))
  clear hk hb h1 h2 h3 hw S0
  go_enter Tryd.func6, Tryd.ntmps6
  go_wp2_with fail
  refine (oawake_any _ S1.out.2.2.1).mono ?_
  rintro e w2 ⟨rfl, hb2⟩
  have S2 := Lib.hid (S1.out.call hb2)
  clear hb2 S1
  obtain ⟨-, ⟨z0, z1, z2, z3, z4, z5, z6⟩, -⟩ := S2.out
  go_wp2_with fail
  refine (bounds_v n _ _ _ HB.out).mono ?_
  rintro e w3 ⟨rfl, rfl⟩
  go_wp2_with fail
  refine (known_v n _ _ HK.out).mono ?_
  rintro e w3 ⟨rfl, rfl⟩
  go_wp2_with fail
  refine (known_v n _ _ HK.out).mono ?_
  rintro e w3 ⟨rfl, rfl⟩
  have T3 := Lib.hid (after_set HW.out S2.out.1 (In.set2 S2.out.2.1 0))
  clear S2
  go_wp2_with fail
  refine (omay_v n x 0 _ _ H1.out).mono ?_
  rintro e w4 ⟨rfl, hb4⟩
  have S4 := Lib.hid (T3.out.call hb4)
  clear hb4 T3 z0 z1 z2 z3 z4 z5 z6
  obtain ⟨-, ⟨z0, z1, z2, z3, z4, z5, z6⟩, -⟩ := S4.out
  have T5 := Lib.hid (after_set HW.out S4.out.1 (In.set1 S4.out.2.1 a))
  clear S4
  go_wp2_with fail
  refine (omay_v n a 0 _ _ H2.out).mono ?_
  rintro e w6 ⟨rfl, hb6⟩
  have S6 := Lib.hid (T5.out.call hb6)
  clear hb6 T5 z0 z1 z2 z3 z4 z5 z6
  obtain ⟨-, ⟨z0, z1, z2, z3, z4, z5, z6⟩, -⟩ := S6.out
  have T7 := Lib.hid (after_set HW.out S6.out.1 (In.set2 S6.out.2.1 1))
  clear S6
  go_wp2_with fail
  refine (omay_v n a 1 _ _ H3.out).mono ?_
  rintro e w8 ⟨rfl, hb8⟩
  have S8 := Lib.hid (T7.out.call hb8)
  clear hb8 T7 z0 z1 z2 z3 z4 z5 z6
  go_wp2_with fail
  go_ret
  exact ⟨rfl, S8.out.1⟩
set_option maxRecDepth 100000 in
set_option maxHeartbeats 2000000 in
theorem obounds_knlo (n x y a : Int) (p q : Int) (w : World) (hw : GN w) (hk : opK n = true) (hb : opLo n = p ∧ opHi n = q) (h1 : opM n x 0 = false) (h2 : opM n a 0 = false) (h3 : opM n a 1 = false) (h0 : 0 ≤ p ∧ p ≤ q ∧ q ≤ 1024) (ha : a < p) :
    Calls Tryd.prog 6 #[.agg #[.int .u8 n, .int .i64 x, .int .i64 y], .int .i64 a] w fun e w' => e = .returned (.bool true) ∧ Below w.heap.size w w' := by
  have HK := Lib.hid hk
  have HB := Lib.hid hb
  have H1 := Lib.hid h1
  have H2 := Lib.hid h2
  have H3 := Lib.hid h3
  have HW := Lib.hid hw
  have S0 := Lib.hid (((Sx.start w).add fN hw).mk1 (.cells #[.int .u8 n, .int .i64 x, .int .i64 y] 23))
  have S1 := Lib.hid (S0.out.add (fI w.heap.size n x y) (In.new w n x y))
  clear hk hb h1 h2 h3 hw S0
  go_enter Tryd.func6, Tryd.ntmps6
  go_wp2_with fail
  refine (oawake_any _ S1.out.2.2.1).mono ?_
  rintro e w2 ⟨rfl, hb2⟩
  have S2 := Lib.hid (S1.out.call hb2)
  clear hb2 S1
  obtain ⟨-, ⟨z0, z1, z2, z3, z4, z5, z6⟩, -⟩ := S2.out
  go_wp2_with fail
  refine (bounds_v n _ _ _ HB.out).mono ?_
  rintro e w3 ⟨rfl, rfl⟩
  go_wp2_with fail
  refine (known_v n _ _ HK.out).mono ?_
  rintro e w3 ⟨rfl, rfl⟩
  go_wp2_with fail
  refine (known_v n _ _ HK.out).mono ?_
  rintro e w3 ⟨rfl, rfl⟩
  have T3 := Lib.hid (after_set HW.out S2.out.1 (In.set2 S2.out.2.1 0))
  clear S2
  go_wp2_with fail
  refine (omay_v n x 0 _ _ H1.out).mono ?_
  rintro e w4 ⟨rfl, hb4⟩
  have S4 := Lib.hid (T3.out.call hb4)
  clear hb4 T3 z0 z1 z2 z3 z4 z5 z6
  obtain ⟨-, ⟨z0, z1, z2, z3, z4, z5, z6⟩, -⟩ := S4.out
  have T5 := Lib.hid (after_set HW.out S4.out.1 (In.set1 S4.out.2.1 a))
  clear S4
  go_wp2_with fail
  refine (omay_v n a 0 _ _ H2.out).mono ?_
  rintro e w6 ⟨rfl, hb6⟩
  have S6 := Lib.hid (T5.out.call hb6)
  clear hb6 T5 z0 z1 z2 z3 z4 z5 z6
  obtain ⟨-, ⟨z0, z1, z2, z3, z4, z5, z6⟩, -⟩ := S6.out
  have T7 := Lib.hid (after_set HW.out S6.out.1 (In.set2 S6.out.2.1 1))
  clear S6
  go_wp2_with fail
  refine (omay_v n a 1 _ _ H3.out).mono ?_
  rintro e w8 ⟨rfl, hb8⟩
  have S8 := Lib.hid (T7.out.call hb8)
  clear hb8 T7 z0 z1 z2 z3 z4 z5 z6
  go_wp2_with fail
  go_ret
  exact ⟨rfl, S8.out.1⟩
set_option maxRecDepth 100000 in
set_option maxHeartbeats 2000000 in
theorem obounds_knhi (n x y a : Int) (p q : Int) (w : World) (hw : GN w) (hk : opK n = true) (hb : opLo n = p ∧ opHi n = q) (h1 : opM n x 0 = false) (h2 : opM n a 0 = false) (h3 : opM n a 1 = false) (h0 : 0 ≤ p ∧ p ≤ q ∧ q ≤ 1024) (ha : p ≤ a ∧ q < a) :
    Calls Tryd.prog 6 #[.agg #[.int .u8 n, .int .i64 x, .int .i64 y], .int .i64 a] w fun e w' => e = .returned (.bool true) ∧ Below w.heap.size w w' := by
  have HK := Lib.hid hk
  have HB := Lib.hid hb
  have H1 := Lib.hid h1
  have H2 := Lib.hid h2
  have H3 := Lib.hid h3
  have HW := Lib.hid hw
  have S0 := Lib.hid (((Sx.start w).add fN hw).mk1 (.cells #[.int .u8 n, .int .i64 x, .int .i64 y] 23))
  have S1 := Lib.hid (S0.out.add (fI w.heap.size n x y) (In.new w n x y))
  clear hk hb h1 h2 h3 hw S0
  go_enter Tryd.func6, Tryd.ntmps6
  go_wp2_with fail
  refine (oawake_any _ S1.out.2.2.1).mono ?_
  rintro e w2 ⟨rfl, hb2⟩
  have S2 := Lib.hid (S1.out.call hb2)
  clear hb2 S1
  obtain ⟨-, ⟨z0, z1, z2, z3, z4, z5, z6⟩, -⟩ := S2.out
  go_wp2_with fail
  refine (bounds_v n _ _ _ HB.out).mono ?_
  rintro e w3 ⟨rfl, rfl⟩
  go_wp2_with fail
  refine (known_v n _ _ HK.out).mono ?_
  rintro e w3 ⟨rfl, rfl⟩
  go_wp2_with fail
  refine (known_v n _ _ HK.out).mono ?_
  rintro e w3 ⟨rfl, rfl⟩
  have T3 := Lib.hid (after_set HW.out S2.out.1 (In.set2 S2.out.2.1 0))
  clear S2
  go_wp2_with fail
  refine (omay_v n x 0 _ _ H1.out).mono ?_
  rintro e w4 ⟨rfl, hb4⟩
  have S4 := Lib.hid (T3.out.call hb4)
  clear hb4 T3 z0 z1 z2 z3 z4 z5 z6
  obtain ⟨-, ⟨z0, z1, z2, z3, z4, z5, z6⟩, -⟩ := S4.out
  have T5 := Lib.hid (after_set HW.out S4.out.1 (In.set1 S4.out.2.1 a))
  clear S4
  go_wp2_with fail
  refine (omay_v n a 0 _ _ H2.out).mono ?_
  rintro e w6 ⟨rfl, hb6⟩
  have S6 := Lib.hid (T5.out.call hb6)
  clear hb6 T5 z0 z1 z2 z3 z4 z5 z6
  obtain ⟨-, ⟨z0, z1, z2, z3, z4, z5, z6⟩, -⟩ := S6.out
  have T7 := Lib.hid (after_set HW.out S6.out.1 (In.set2 S6.out.2.1 1))
  clear S6
  go_wp2_with fail
  refine (omay_v n a 1 _ _ H3.out).mono ?_
  rintro e w8 ⟨rfl, hb8⟩
  have S8 := Lib.hid (T7.out.call hb8)
  clear hb8 T7 z0 z1 z2 z3 z4 z5 z6
  go_wp2_with fail
  go_ret
  have hq : ¬ a ≤ q := by omega
  refine ⟨?_, S8.out.1⟩
  simp [go_sem, hq]
set_option maxRecDepth 100000 in
set_option maxHeartbeats 2000000 in
theorem obounds_nnlo (n x y a : Int) (w : World) (hw : GN w) (hk : opK n = false) (hb : opLo n = 0 ∧ opHi n = (-1)) (h1 : opM n x 0 = false) (h2 : opM n a 0 = false) (h3 : opM n a 1 = false) (ha : a < 0) :
    Calls Tryd.prog 6 #[.agg #[.int .u8 n, .int .i64 x, .int .i64 y], .int .i64 a] w fun e w' => e = .returned (.bool true) ∧ Below w.heap.size w w' := by
  have HK := Lib.hid hk
  have HB := Lib.hid hb
  have H1 := Lib.hid h1
  have H2 := Lib.hid h2
  have H3 := Lib.hid h3
  have HW := Lib.hid hw
  have S0 := Lib.hid (((Sx.start w).add fN hw).mk1 (.cells #[.int .u8 n, .int .i64 x, .int .i64 y] 23))
  have S1 := Lib.hid (S0.out.add (fI w.heap.size n x y) (In.new w n x y))
  clear hk hb h1 h2 h3 hw S0
  go_enter Tryd.func6, Tryd.ntmps6
  go_wp2_with fail
  refine (oawake_any _ S1.out.2.2.1).mono ?_
  rintro e w2 ⟨rfl, hb2⟩
  have S2 := Lib.hid (S1.out.call hb2)
  clear hb2 S1
  obtain ⟨-, ⟨z0, z1, z2, z3, z4, z5, z6⟩, -⟩ := S2.out
  go_wp2_with fail
  refine (bounds_v n _ _ _ HB.out).mono ?_
  rintro e w3 ⟨rfl, rfl⟩
  go_wp2_with fail
  refine (known_v n _ _ HK.out).mono ?_
  rintro e w3 ⟨rfl, rfl⟩
  go_wp2_with fail
  refine (known_v n _ _ HK.out).mono ?_
  rintro e w3 ⟨rfl, rfl⟩
  have T3 := Lib.hid (after_set HW.out S2.out.1 (In.set2 S2.out.2.1 0))
  clear S2
  go_wp2_with fail
  refine (omay_v n x 0 _ _ H1.out).mono ?_
  rintro e w4 ⟨rfl, hb4⟩
  have S4 := Lib.hid (T3.out.call hb4)
  clear hb4 T3 z0 z1 z2 z3 z4 z5 z6
  obtain ⟨-, ⟨z0, z1, z2, z3, z4, z5, z6⟩, -⟩ := S4.out
  have T5 := Lib.hid (after_set HW.out S4.out.1 (In.set1 S4.out.2.1 a))
  clear S4
  go_wp2_with fail
  refine (omay_v n a 0 _ _ H2.out).mono ?_
  rintro e w6 ⟨rfl, hb6⟩
  have S6 := Lib.hid (T5.out.call hb6)
  clear hb6 T5 z0 z1 z2 z3 z4 z5 z6
  obtain ⟨-, ⟨z0, z1, z2, z3, z4, z5, z6⟩, -⟩ := S6.out
  have T7 := Lib.hid (after_set HW.out S6.out.1 (In.set2 S6.out.2.1 1))
  clear S6
  go_wp2_with fail
  refine (omay_v n a 1 _ _ H3.out).mono ?_
  rintro e w8 ⟨rfl, hb8⟩
  have S8 := Lib.hid (T7.out.call hb8)
  clear hb8 T7 z0 z1 z2 z3 z4 z5 z6
  go_wp2_with fail
  go_ret
  exact ⟨rfl, S8.out.1⟩
set_option maxRecDepth 100000 in
set_option maxHeartbeats 2000000 in
theorem obounds_nnhi (n x y a : Int) (w : World) (hw : GN w) (hk : opK n = false) (hb : opLo n = 0 ∧ opHi n = (-1)) (h1 : opM n x 0 = false) (h2 : opM n a 0 = false) (h3 : opM n a 1 = false) (ha : 0 ≤ a) :
    Calls Tryd.prog 6 #[.agg #[.int .u8 n, .int .i64 x, .int .i64 y], .int .i64 a] w fun e w' => e = .returned (.bool true) ∧ Below w.heap.size w w' := by
  have HK := Lib.hid hk
  have HB := Lib.hid hb
  have H1 := Lib.hid h1
  have H2 := Lib.hid h2
  have H3 := Lib.hid h3
  have HW := Lib.hid hw
  have S0 := Lib.hid (((Sx.start w).add fN hw).mk1 (.cells #[.int .u8 n, .int .i64 x, .int .i64 y] 23))
  have S1 := Lib.hid (S0.out.add (fI w.heap.size n x y) (In.new w n x y))
  clear hk hb h1 h2 h3 hw S0
  go_enter Tryd.func6, Tryd.ntmps6
  go_wp2_with fail
  refine (oawake_any _ S1.out.2.2.1).mono ?_
  rintro e w2 ⟨rfl, hb2⟩
  have S2 := Lib.hid (S1.out.call hb2)
  clear hb2 S1
  obtain ⟨-, ⟨z0, z1, z2, z3, z4, z5, z6⟩, -⟩ := S2.out
  go_wp2_with fail
  refine (bounds_v n _ _ _ HB.out).mono ?_
  rintro e w3 ⟨rfl, rfl⟩
  go_wp2_with fail
  refine (known_v n _ _ HK.out).mono ?_
  rintro e w3 ⟨rfl, rfl⟩
  go_wp2_with fail
  refine (known_v n _ _ HK.out).mono ?_
  rintro e w3 ⟨rfl, rfl⟩
  have T3 := Lib.hid (after_set HW.out S2.out.1 (In.set2 S2.out.2.1 0))
  clear S2
  go_wp2_with fail
  refine (omay_v n x 0 _ _ H1.out).mono ?_
  rintro e w4 ⟨rfl, hb4⟩
  have S4 := Lib.hid (T3.out.call hb4)
  clear hb4 T3 z0 z1 z2 z3 z4 z5 z6
  obtain ⟨-, ⟨z0, z1, z2, z3, z4, z5, z6⟩, -⟩ := S4.out
  have T5 := Lib.hid (after_set HW.out S4.out.1 (In.set1 S4.out.2.1 a))
  clear S4
  go_wp2_with fail
  refine (omay_v n a 0 _ _ H2.out).mono ?_
  rintro e w6 ⟨rfl, hb6⟩
  have S6 := Lib.hid (T5.out.call hb6)
  clear hb6 T5 z0 z1 z2 z3 z4 z5 z6
  obtain ⟨-, ⟨z0, z1, z2, z3, z4, z5, z6⟩, -⟩ := S6.out
  have T7 := Lib.hid (after_set HW.out S6.out.1 (In.set2 S6.out.2.1 1))
  clear S6
  go_wp2_with fail
  refine (omay_v n a 1 _ _ H3.out).mono ?_
  rintro e w8 ⟨rfl, hb8⟩
  have S8 := Lib.hid (T7.out.call hb8)
  clear hb8 T7 z0 z1 z2 z3 z4 z5 z6
  go_wp2_with fail
  go_ret
  have hq : ¬ a ≤ (-1) := by omega
  refine ⟨?_, S8.out.1⟩
  simp [go_sem, hq]
theorem op_yes {n : Int} (h : opK n = true) : 0 ≤ opLo n ∧ opLo n ≤ opHi n ∧ opHi n ≤ 1024 := by
  have h' : n < 33 := by simpa [opK] using h
  clear h
  unfold opLo opHi
  repeat' split
  all_goals omega
theorem op_no {n : Int} (h : opK n = false) : opLo n = 0 ∧ opHi n = -1 := by
  have h' : ¬ n < 33 := by simpa [opK] using h
  constructor
  · rw [opLo, if_neg (by omega)]
  · rw [opHi]; repeat' rw [if_neg (by omega)]
theorem obounds_walk (n x y a : Int) (w : World) (hw : GN w) : Calls Tryd.prog 6 #[.agg #[.int .u8 n, .int .i64 x, .int .i64 y], .int .i64 a] w fun e w' => e = .returned (.bool true) ∧ Below w.heap.size w w' := by
  have h3 : opM n a 1 = false := by simp [opM]
  cases hk : opK n with
  | true =>
    obtain ⟨p, hp⟩ : ∃ p, opLo n = p := ⟨_, rfl⟩
    obtain ⟨q, hq⟩ : ∃ q, opHi n = q := ⟨_, rfl⟩
    have h0 := op_yes hk
    rw [hp, hq] at h0
    cases h1 : opM n x 0 with
    | true =>
      by_cases ha : p ≤ a
      · by_cases hb : a ≤ q
        · exact obounds_kmin n x y a p q w hw hk ⟨hp, hq⟩ h1 (by simp [opM, hp, hq, ha, hb]) h3 h0 ⟨ha, hb⟩
        · exact obounds_kmhi n x y a p q w hw hk ⟨hp, hq⟩ h1 (by simp [opM, hp, hq, ha, hb]) h3 h0 ⟨ha, by omega⟩
      · exact obounds_kmlo n x y a p q w hw hk ⟨hp, hq⟩ h1 (by simp [opM, hp, hq, ha]) h3 h0 (by omega)
    | false =>
      by_cases ha : p ≤ a
      · by_cases hb : a ≤ q
        · exact obounds_knin n x y a p q w hw hk ⟨hp, hq⟩ h1 (by simp [opM, hp, hq, ha, hb]) h3 h0 ⟨ha, hb⟩
        · exact obounds_knhi n x y a p q w hw hk ⟨hp, hq⟩ h1 (by simp [opM, hp, hq, ha, hb]) h3 h0 ⟨ha, by omega⟩
      · exact obounds_knlo n x y a p q w hw hk ⟨hp, hq⟩ h1 (by simp [opM, hp, hq, ha]) h3 h0 (by omega)
  | false =>
    obtain ⟨hp, hq⟩ := op_no hk
    have h1 : opM n x 0 = false := by
      simp [opM, hp, hq]
      omega
    have h2 : opM n a 0 = false := by
      simp [opM, hp, hq]
      omega
    by_cases ha : a < 0
    · exact obounds_nnlo n x y a w hw hk ⟨hp, hq⟩ h1 h2 h3 ha
    · exact obounds_nnhi n x y a w hw hk ⟨hp, hq⟩ h1 h2 h3 (by omega)
end Go.Proofs.YtdkhpjdhbkkfiaaDoor
