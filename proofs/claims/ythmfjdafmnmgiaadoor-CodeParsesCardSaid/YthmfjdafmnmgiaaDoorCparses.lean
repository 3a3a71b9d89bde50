/-
  The walk of CodeParses: for every text it returns true; nothing that was there has changed.
-/
import Derived.Test.YthmfjdafmnmgiaaDoorCk
namespace Go.Proofs.YthmfjdafmnmgiaaDoor
open Go.RowKit
set_option maxRecDepth 100000
set_option linter.unusedSimpArgs false
set_option linter.unusedVariables false

theorem cparses_walk (F : Fct) (K : KParse F) (s : ByteArray) (w : World) (hs : s.size ≤ maxLen) (hw : F.p w) : Calls Tryd.prog 4 #[.string s] w fun e w' => e = .returned (.bool true) ∧ Below w.heap.size w w' := by
  have hs' : s.size ≤ 9223372036854775807 := hs
  by_cases hl : s.size ≤ 4000
  · have P1 := fun w hw => Lib.hid (K (nums s) s w hw (nums_byt s) (nums_str s) (by rw [nums_len]; omega))
    have P2 := fun w => Lib.hid (r5parse_k (nums s) s w (nums_byt s) (nums_str s) (by rw [nums_len]; omega))
    have S0 := Lib.hid ((Sx.start w).add F hw)
    generalize psC (nums s) = R at *
    obtain ⟨e0, M⟩ := R
    simp only at P1 P2
    clear hw
    go_enter Tryd.func4, Tryd.ntmps4
    go_wp2_with fail
    refine (P1 _ S0.out.2.1).out.mono ?_
    rintro e w1 ⟨A1, c1, rfl, h1, hb1⟩
    have hl1 := h1.len
    have S1 := Lib.hid ((S0.out.call hb1).add (fT A1 c1 M) h1)
    clear S0 h1 hb1
    go_wp2_with fail
    refine (P2 _).out.mono ?_
    rintro e w2 ⟨A2, c2, rfl, h2, hb2⟩
    have S2 := Lib.hid ((S1.out.call hb2).add (fT A2 c2 M) h2)
    clear S1 h2 hb2
    go_wp2_with fail
    refine (r5same_any A1 A2 c1 c2 _ _ M M _ S2.out.2.2.1 S2.out.2.1 rfl rfl).mono ?_
    rintro e w3 ⟨rfl, hb3⟩
    rw [decide_eq_true rfl]
    have S3 := Lib.hid (S2.out.call hb3)
    clear S2 hb3
    go_wp2_with fail
    go_ret
    exact ⟨rfl, S3.out.1⟩
  · go_enter Tryd.func4, Tryd.ntmps4
    go_wp2_with fail
    go_ret
    exact ⟨rfl, Below.refl _ _⟩
end Go.Proofs.YthmfjdafmnmgiaaDoor
