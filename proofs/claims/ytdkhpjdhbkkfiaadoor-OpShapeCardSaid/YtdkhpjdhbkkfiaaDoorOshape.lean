/-
  The walk of OpShape: for every opcode it returns true; nothing that was there has changed.
-/
import Derived.Test.YtdkhpjdhbkkfiaaDoorOawake
namespace Go.Proofs.YtdkhpjdhbkkfiaaDoor
open Go.RowKit
set_option linter.unusedSimpArgs false
set_option linter.unusedVariables false

/-- What Of answers, and what it owns reads as. -/
theorem of_v (n : Int) (T V : List Int) (v : Bool) (w : World) (h : tkL n = T ∧ gvL n = V ∧ fxB n = v) (hT : Byt T) (hV : Byt V) : Calls Tryd.prog 23 #[.int .u8 n] w fun e w' => ∃ A c A' c', e = .returned (.tuple #[.agg #[.slice A T.length c, .slice A' V.length c'], .bool v]) ∧
    Rd w' A c T ∧ Rd w' A' c' V ∧ Below w.heap.size w w' := by
  have := of_any n w
  rw [h.1, h.2.1, h.2.2] at this
  refine this.mono ?_
  rintro e w1 ⟨A, c, A', c', m, rfl, h1, -, -, h2, hb⟩
  exact ⟨A, c, A', c', rfl, own_rd h1 hT, own_rd h2 hV, hb⟩
/-- Two slices lie at block B. -/
def Sh (w : World) (B : Nat) (x y : Value) : Prop := B < w.heap.size ∧ w.cell? ⟨B, 0, none⟩ = some x ∧ w.cell? ⟨B, 1, none⟩ = some y
theorem Sh.keep {w w' : World} {B : Nat} {x y : Value} (h : Sh w B x y) (hb : Below w.heap.size w w') : Sh w' B x y := by
  obtain ⟨h1, h2, h3⟩ := h
  obtain ⟨hc, hf⟩ := bcell hb
  exact ⟨Nat.lt_of_lt_of_le h1 hb.size, (hc _ _ h1).trans h2, (hc _ _ h1).trans h3⟩
theorem Sh.new (w : World) (x y : Value) : Sh (w.alloc (.cells #[x, y] 37)) w.heap.size x y := by
  refine ⟨by simp, ?_, ?_⟩ <;> simp [go_sem]
abbrev fS (B : Nat) (x y : Value) : Fct := ⟨fun w => Sh w B x y, fun _ _ h hb => h.keep hb⟩
theorem oshape_1 (w : World) (hw : GN w) : Calls Tryd.prog 7 #[.int .u8 1] w fun e w' => e = .returned (.bool true) ∧ Below w.heap.size w w' := by
  have HF : Hid (fxB 1 = false) := by unfold Hid; decide
  have HK : Hid (opK 1 = true) := by unfold Hid; decide
  have S0 := Lib.hid ((Sx.start w).add fN hw)
  clear hw
  go_enter Tryd.func7, Tryd.ntmps7
  go_wp2_with fail
  refine (oawake_any _ S0.out.2.1).mono ?_
  rintro e w1 ⟨rfl, hb1⟩
  have S1 := Lib.hid (S0.out.call hb1)
  clear hb1 S0
  go_wp2_with fail
  refine (of_f 1 _ HF.out).mono ?_
  rintro e w2 ⟨A, c, A', c', rfl, hb2⟩
  have S2 := Lib.hid (((S1.out.call hb2).mk1 (.cells #[.slice A 0 c, .slice A' 0 c'] 37)).add (fS w2.heap.size _ _) (Sh.new w2 _ _))
  clear hb2 S1
  go_wp2_with fail
  refine (known_v 1 _ _ HK.out).mono ?_
  rintro e w4 ⟨rfl, rfl⟩
  go_wp2_with fail
  go_ret
  exact ⟨rfl, S2.out.1⟩
theorem oshape_2 (w : World) (hw : GN w) : Calls Tryd.prog 7 #[.int .u8 2] w fun e w' => e = .returned (.bool true) ∧ Below w.heap.size w w' := by
  have HF : Hid (fxB 2 = false) := by unfold Hid; decide
  have HK : Hid (opK 2 = true) := by unfold Hid; decide
  have S0 := Lib.hid ((Sx.start w).add fN hw)
  clear hw
  go_enter Tryd.func7, Tryd.ntmps7
  go_wp2_with fail
  refine (oawake_any _ S0.out.2.1).mono ?_
  rintro e w1 ⟨rfl, hb1⟩
  have S1 := Lib.hid (S0.out.call hb1)
  clear hb1 S0
  go_wp2_with fail
  refine (of_f 2 _ HF.out).mono ?_
  rintro e w2 ⟨A, c, A', c', rfl, hb2⟩
  have S2 := Lib.hid (((S1.out.call hb2).mk1 (.cells #[.slice A 0 c, .slice A' 0 c'] 37)).add (fS w2.heap.size _ _) (Sh.new w2 _ _))
  clear hb2 S1
  go_wp2_with fail
  refine (known_v 2 _ _ HK.out).mono ?_
  rintro e w4 ⟨rfl, rfl⟩
  go_wp2_with fail
  go_ret
  exact ⟨rfl, S2.out.1⟩
theorem oshape_3 (w : World) (hw : GN w) : Calls Tryd.prog 7 #[.int .u8 3] w fun e w' => e = .returned (.bool true) ∧ Below w.heap.size w w' := by
  have HF : Hid (fxB 3 = false) := by unfold Hid; decide
  have HK : Hid (opK 3 = true) := by unfold Hid; decide
  have S0 := Lib.hid ((Sx.start w).add fN hw)
  clear hw
  go_enter Tryd.func7, Tryd.ntmps7
  go_wp2_with fail
  refine (oawake_any _ S0.out.2.1).mono ?_
  rintro e w1 ⟨rfl, hb1⟩
  have S1 := Lib.hid (S0.out.call hb1)
  clear hb1 S0
  go_wp2_with fail
  refine (of_f 3 _ HF.out).mono ?_
  rintro e w2 ⟨A, c, A', c', rfl, hb2⟩
  have S2 := Lib.hid (((S1.out.call hb2).mk1 (.cells #[.slice A 0 c, .slice A' 0 c'] 37)).add (fS w2.heap.size _ _) (Sh.new w2 _ _))
  clear hb2 S1
  go_wp2_with fail
  refine (known_v 3 _ _ HK.out).mono ?_
  rintro e w4 ⟨rfl, rfl⟩
  go_wp2_with fail
  go_ret
  exact ⟨rfl, S2.out.1⟩
theorem oshape_4 (w : World) (hw : GN w) : Calls Tryd.prog 7 #[.int .u8 4] w fun e w' => e = .returned (.bool true) ∧ Below w.heap.size w w' := by
  have HF : Hid (fxB 4 = false) := by unfold Hid; decide
  have HK : Hid (opK 4 = true) := by unfold Hid; decide
  have S0 := Lib.hid ((Sx.start w).add fN hw)
  clear hw
  go_enter Tryd.func7, Tryd.ntmps7
  go_wp2_with fail
  refine (oawake_any _ S0.out.2.1).mono ?_
  rintro e w1 ⟨rfl, hb1⟩
  have S1 := Lib.hid (S0.out.call hb1)
  clear hb1 S0
  go_wp2_with fail
  refine (of_f 4 _ HF.out).mono ?_
  rintro e w2 ⟨A, c, A', c', rfl, hb2⟩
  have S2 := Lib.hid (((S1.out.call hb2).mk1 (.cells #[.slice A 0 c, .slice A' 0 c'] 37)).add (fS w2.heap.size _ _) (Sh.new w2 _ _))
  clear hb2 S1
  go_wp2_with fail
  refine (known_v 4 _ _ HK.out).mono ?_
  rintro e w4 ⟨rfl, rfl⟩
  go_wp2_with fail
  go_ret
  exact ⟨rfl, S2.out.1⟩
theorem oshape_5 (w : World) (hw : GN w) : Calls Tryd.prog 7 #[.int .u8 5] w fun e w' => e = .returned (.bool true) ∧ Below w.heap.size w w' := by
  have HF : Hid (fxB 5 = false) := by unfold Hid; decide
  have HK : Hid (opK 5 = true) := by unfold Hid; decide
  have S0 := Lib.hid ((Sx.start w).add fN hw)
  clear hw
  go_enter Tryd.func7, Tryd.ntmps7
  go_wp2_with fail
  refine (oawake_any _ S0.out.2.1).mono ?_
  rintro e w1 ⟨rfl, hb1⟩
  have S1 := Lib.hid (S0.out.call hb1)
  clear hb1 S0
  go_wp2_with fail
  refine (of_f 5 _ HF.out).mono ?_
  rintro e w2 ⟨A, c, A', c', rfl, hb2⟩
  have S2 := Lib.hid (((S1.out.call hb2).mk1 (.cells #[.slice A 0 c, .slice A' 0 c'] 37)).add (fS w2.heap.size _ _) (Sh.new w2 _ _))
  clear hb2 S1
  go_wp2_with fail
  refine (known_v 5 _ _ HK.out).mono ?_
  rintro e w4 ⟨rfl, rfl⟩
  go_wp2_with fail
  go_ret
  exact ⟨rfl, S2.out.1⟩
theorem oshape_7 (w : World) (hw : GN w) : Calls Tryd.prog 7 #[.int .u8 7] w fun e w' => e = .returned (.bool true) ∧ Below w.heap.size w w' := by
  have HF : Hid (fxB 7 = false) := by unfold Hid; decide
  have HK : Hid (opK 7 = true) := by unfold Hid; decide
  have S0 := Lib.hid ((Sx.start w).add fN hw)
  clear hw
  go_enter Tryd.func7, Tryd.ntmps7
  go_wp2_with fail
  refine (oawake_any _ S0.out.2.1).mono ?_
  rintro e w1 ⟨rfl, hb1⟩
  have S1 := Lib.hid (S0.out.call hb1)
  clear hb1 S0
  go_wp2_with fail
  refine (of_f 7 _ HF.out).mono ?_
  rintro e w2 ⟨A, c, A', c', rfl, hb2⟩
  have S2 := Lib.hid (((S1.out.call hb2).mk1 (.cells #[.slice A 0 c, .slice A' 0 c'] 37)).add (fS w2.heap.size _ _) (Sh.new w2 _ _))
  clear hb2 S1
  go_wp2_with fail
  refine (known_v 7 _ _ HK.out).mono ?_
  rintro e w4 ⟨rfl, rfl⟩
  go_wp2_with fail
  go_ret
  exact ⟨rfl, S2.out.1⟩
theorem oshape_8 (w : World) (hw : GN w) : Calls Tryd.prog 7 #[.int .u8 8] w fun e w' => e = .returned (.bool true) ∧ Below w.heap.size w w' := by
  have HF : Hid (fxB 8 = false) := by unfold Hid; decide
  have HK : Hid (opK 8 = true) := by unfold Hid; decide
  have S0 := Lib.hid ((Sx.start w).add fN hw)
  clear hw
  go_enter Tryd.func7, Tryd.ntmps7
  go_wp2_with fail
  refine (oawake_any _ S0.out.2.1).mono ?_
  rintro e w1 ⟨rfl, hb1⟩
  have S1 := Lib.hid (S0.out.call hb1)
  clear hb1 S0
  go_wp2_with fail
  refine (of_f 8 _ HF.out).mono ?_
  rintro e w2 ⟨A, c, A', c', rfl, hb2⟩
  have S2 := Lib.hid (((S1.out.call hb2).mk1 (.cells #[.slice A 0 c, .slice A' 0 c'] 37)).add (fS w2.heap.size _ _) (Sh.new w2 _ _))
  clear hb2 S1
  go_wp2_with fail
  refine (known_v 8 _ _ HK.out).mono ?_
  rintro e w4 ⟨rfl, rfl⟩
  go_wp2_with fail
  go_ret
  exact ⟨rfl, S2.out.1⟩
theorem oshape_30 (w : World) (hw : GN w) : Calls Tryd.prog 7 #[.int .u8 30] w fun e w' => e = .returned (.bool true) ∧ Below w.heap.size w w' := by
  have HF : Hid (fxB 30 = false) := by unfold Hid; decide
  have HK : Hid (opK 30 = true) := by unfold Hid; decide
  have S0 := Lib.hid ((Sx.start w).add fN hw)
  clear hw
  go_enter Tryd.func7, Tryd.ntmps7
  go_wp2_with fail
  refine (oawake_any _ S0.out.2.1).mono ?_
  rintro e w1 ⟨rfl, hb1⟩
  have S1 := Lib.hid (S0.out.call hb1)
  clear hb1 S0
  go_wp2_with fail
  refine (of_f 30 _ HF.out).mono ?_
  rintro e w2 ⟨A, c, A', c', rfl, hb2⟩
  have S2 := Lib.hid (((S1.out.call hb2).mk1 (.cells #[.slice A 0 c, .slice A' 0 c'] 37)).add (fS w2.heap.size _ _) (Sh.new w2 _ _))
  clear hb2 S1
  go_wp2_with fail
  refine (known_v 30 _ _ HK.out).mono ?_
  rintro e w4 ⟨rfl, rfl⟩
  go_wp2_with fail
  go_ret
  exact ⟨rfl, S2.out.1⟩
theorem oshape_31 (w : World) (hw : GN w) : Calls Tryd.prog 7 #[.int .u8 31] w fun e w' => e = .returned (.bool true) ∧ Below w.heap.size w w' := by
  have HF : Hid (fxB 31 = false) := by unfold Hid; decide
  have HK : Hid (opK 31 = true) := by unfold Hid; decide
  have S0 := Lib.hid ((Sx.start w).add fN hw)
  clear hw
  go_enter Tryd.func7, Tryd.ntmps7
  go_wp2_with fail
  refine (oawake_any _ S0.out.2.1).mono ?_
  rintro e w1 ⟨rfl, hb1⟩
  have S1 := Lib.hid (S0.out.call hb1)
  clear hb1 S0
  go_wp2_with fail
  refine (of_f 31 _ HF.out).mono ?_
  rintro e w2 ⟨A, c, A', c', rfl, hb2⟩
  have S2 := Lib.hid (((S1.out.call hb2).mk1 (.cells #[.slice A 0 c, .slice A' 0 c'] 37)).add (fS w2.heap.size _ _) (Sh.new w2 _ _))
  clear hb2 S1
  go_wp2_with fail
  refine (known_v 31 _ _ HK.out).mono ?_
  rintro e w4 ⟨rfl, rfl⟩
  go_wp2_with fail
  go_ret
  exact ⟨rfl, S2.out.1⟩
theorem oshape_none (n : Int) (hn : 33 ≤ n) (w : World) (hw : GN w) : Calls Tryd.prog 7 #[.int .u8 n] w fun e w' => e = .returned (.bool true) ∧ Below w.heap.size w w' := by
  have HF : Hid (fxB n = false) := by simp [Hid, fxB]; omega
  have HK : Hid (opK n = false) := by simp [Hid, opK]; omega
  have S0 := Lib.hid ((Sx.start w).add fN hw)
  clear hw
  go_enter Tryd.func7, Tryd.ntmps7
  go_wp2_with fail
  refine (oawake_any _ S0.out.2.1).mono ?_
  rintro e w1 ⟨rfl, hb1⟩
  have S1 := Lib.hid (S0.out.call hb1)
  clear hb1 S0
  go_wp2_with fail
  refine (of_f n _ HF.out).mono ?_
  rintro e w2 ⟨A, c, A', c', rfl, hb2⟩
  have S2 := Lib.hid (((S1.out.call hb2).mk1 (.cells #[.slice A 0 c, .slice A' 0 c'] 37)).add (fS w2.heap.size _ _) (Sh.new w2 _ _))
  clear hb2 S1
  go_wp2_with fail
  refine (known_v n _ _ HK.out).mono ?_
  rintro e w4 ⟨rfl, rfl⟩
  go_wp2_with fail
  go_ret
  refine ⟨?_, S2.out.1⟩
  have h1 : (n == 1) = false := by simp; omega
  have h2 : (n == 2) = false := by simp; omega
  have h3 : (n == 3) = false := by simp; omega
  have h4 : (n == 4) = false := by simp; omega
  have h5 : (n == 5) = false := by simp; omega
  have h7 : (n == 7) = false := by simp; omega
  have h8 : (n == 8) = false := by simp; omega
  have h30 : (n == 30) = false := by simp; omega
  have h31 : (n == 31) = false := by simp; omega
  simp [go_sem, h1, h2, h3, h4, h5, h7, h8, h30, h31]
end Go.Proofs.YtdkhpjdhbkkfiaaDoor
