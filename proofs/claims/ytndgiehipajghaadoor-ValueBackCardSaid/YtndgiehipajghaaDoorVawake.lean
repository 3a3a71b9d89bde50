/-
  That the chapter's examples hold (the statements' 'awake' and 'told' of layer 3); nothing that was there has changed.
-/
import Derived.Test.YtndgiehipajghaaDoorVmath
namespace Go.Proofs.YtndgiehipajghaaDoor
open Go.RowKit
set_option linter.unusedSimpArgs false

theorem told_t (A : Option Addr) (m c : Nat) (l : List Int) (e0 : Int) (w : World) (hr : Rd w A c l) (hm : l.length = m) (hw : GW w) (h : rdT l 0 = (0, 0, 0, 0, e0)) :
    Calls Tryd.prog 30 #[.int .i64 e0, .slice A m c] w fun e w' => e = .returned (.bool true) ∧ Below w.heap.size w w' := by
  subst hm
  have q1 := eq_val 9998 0 0 0 0 0 0 true (by simp)
  have H := Lib.hid h
  clear h
  go_enter Tryd.func30, Tryd.ntmps30
  go_wp2_with fail
  refine (vread_v A c l 0 _ _ _ _ _ _ hr hw H.out).mono ?_
  rintro e w1 ⟨rfl, hb1⟩
  go_wp2_with fail
  go_ret
  exact ⟨rfl, below_on hb1 new1⟩

set_option maxRecDepth 100000 in
set_option maxHeartbeats 2000000 in
theorem awake_any (w : World) (hw : GW w) : Calls Tryd.prog 21 #[] w fun e w' => e = .returned (.bool true) ∧ Below w.heap.size w w' := by
  have B1 : Hid (bytE 1 258 0 = 0 ∧ bytL 1 258 0 = [1, 2, 1, 0, 0, 0, 0, 0, 0] ∧ ([1, 2, 1, 0, 0, 0, 0, 0, 0] : List Int).length = 9) := by unfold Hid; decide
  have B2 : Hid (bytE 2 (-1) 2 = 0 ∧ bytL 2 (-1) 2 = [2, 255, 255, 15, 2, 0, 16] ∧ ([2, 255, 255, 15, 2, 0, 16] : List Int).length = 7) := by unfold Hid; decide
  have P1 : Hid (okB (-1) 2 = true) := by unfold Hid; decide
  have T1 : Hid (rdT [3] 0 = (0, 0, 0, 0, 30)) := by unfold Hid; decide
  have T2 : Hid (rdT [1, 2] 0 = (0, 0, 0, 0, 10)) := by unfold Hid; decide
  have T3 : Hid (rdT [2, 1, 0, 32, 0, 0, 0] 0 = (0, 0, 0, 0, 30)) := by unfold Hid; decide
  have T4 : Hid (rdT [] 0 = (0, 0, 0, 0, 10)) := by unfold Hid; decide
  have G := Lib.hid hw
  clear hw
  go_enter Tryd.func21, Tryd.ntmps21
  go_wp2_with fail
  refine (int_any 258 _).mono ?_
  rintro e w1 ⟨rfl, hb1⟩
  have S1 := Lib.hid (((Sx.start w).add fG G.out).call hb1)
  clear hb1
  go_wp2_with fail
  refine (vbytes_v 1 258 0 _ _ _ _ S1.out.2.1 B1.out).mono ?_
  rintro e w2 ⟨A2, c2, rfl, ho2, hb2⟩
  have S2 := Lib.hid ((S1.out.call hb2).add (fR A2 c2 _) (own_rd ho2 (byt_of rfl)))
  clear hb2 ho2 S1
  go_wp2_with fail
  refine (vpair_v (-1) 2 true _ P1.out).mono ?_
  rintro e w3 ⟨rfl, hb3⟩
  have S3 := Lib.hid ((S2.out.call hb3).mkV 2 (-1) 2)
  clear hb3 S2
  rw [show gX true 2 = 2 from rfl, show gX true (-1) = -1 from rfl]
  go_wp2_with fail
  refine (vbytes_v 2 (-1) 2 _ _ _ _ S3.out.2.2.2.1 B2.out).mono ?_
  rintro e w4 ⟨A4, c4, rfl, ho4, hb4⟩
  have S4 := Lib.hid ((S3.out.call hb4).add (fR A4 c4 _) (own_rd ho4 (byt_of rfl)))
  clear hb4 ho4 S3
  have k1 : (convert 26 9 (.slice A2 9 c2)).run Tryd.prog w4 = .ok (.string ⟨#[1, 2, 1, 0, 0, 0, 0, 0, 0]⟩) w4 := rd_string (P := Tryd.prog) S4.out.2.2.2.1 26 9 5 Tryd.underlying26 Tryd.underlying5 Tryd.underlying9
  have k2 : (convert 26 9 (.slice A4 7 c4)).run Tryd.prog w4 = .ok (.string ⟨#[2, 255, 255, 15, 2, 0, 16]⟩) w4 := rd_string (P := Tryd.prog) S4.out.2.1 26 9 5 Tryd.underlying26 Tryd.underlying5 Tryd.underlying9
  go_wp2_with fail
  clear k1 k2
  refine (told_t _ _ 1 [3] 30 _ (rd_lit w4 [3] (byt_of rfl) (by decide)) rfl (GW.keep S4.out.2.2.2.2.1 new1) T1.out).mono ?_
  rintro e w5 ⟨rfl, hb5⟩
  have S5 := Lib.hid (S4.out.call (below1 hb5))
  clear hb5 S4
  go_wp2_with fail
  refine (told_t _ _ 2 [1, 2] 10 _ (rd_lit w5 [1, 2] (byt_of rfl) (by decide)) rfl (GW.keep S5.out.2.2.2.2.1 new1) T2.out).mono ?_
  rintro e w6 ⟨rfl, hb6⟩
  have S6 := Lib.hid (S5.out.call (below1 hb6))
  clear hb6 S5
  go_wp2_with fail
  refine (told_t _ _ 7 [2, 1, 0, 32, 0, 0, 0] 30 _ (rd_lit w6 [2, 1, 0, 32, 0, 0, 0] (byt_of rfl) (by decide)) rfl (GW.keep S6.out.2.2.2.2.1 new1) T3.out).mono ?_
  rintro e w7 ⟨rfl, hb7⟩
  have S7 := Lib.hid (S6.out.call (below1 hb7))
  clear hb7 S6
  go_wp2_with fail
  refine (told_t none 0 0 [] 10 _ (Rd.none_ _) rfl S7.out.2.2.2.2.1 T4.out).mono ?_
  rintro e w8 ⟨rfl, hb8⟩
  have S8 := Lib.hid (S7.out.call hb8)
  clear hb8 S7
  go_wp2_with fail
  go_ret
  exact ⟨rfl, S8.out.1⟩
end Go.Proofs.YtndgiehipajghaaDoor
