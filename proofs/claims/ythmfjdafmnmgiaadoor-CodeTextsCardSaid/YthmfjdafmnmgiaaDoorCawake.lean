/-
  That the chapter's examples hold (the statements' 'awake' and 'told' of layer 5); nothing that was there has changed.
-/
import Derived.Test.YthmfjdafmnmgiaaDoorCk
import Derived.Test.YthmfjdafmnmgiaaDoorCmt
namespace Go.Proofs.YthmfjdafmnmgiaaDoor
open Go.RowKit
set_option maxRecDepth 100000
set_option linter.unusedSimpArgs false
set_option linter.unusedVariables false

theorem ctold_t (F : Fct) (K : KRead F) (A : Option Addr) (m c : Nat) (l : List Int) (e0 : Int) (w : World) (hw : F.p w) (hr : Rd w A c l) (hm : l.length = m) (h : rdC l 0 = (e0, [], 0)) :
    Calls Tryd.prog 21 #[.int .i64 e0, .slice A m c] w fun e w' => e = .returned (.bool true) ∧ Below w.heap.size w w' := by
  have P := Lib.hid (K A c m l 0 w hw hr hm)
  rw [h] at P
  clear h
  go_enter Tryd.func21, Tryd.ntmps21
  go_wp2_with fail
  refine P.out.mono ?_
  rintro e w1 ⟨A1, c1, rfl, h1, hb1⟩
  go_wp2_with fail
  go_ret
  exact ⟨rfl, hb1⟩
theorem ri_lit (w : World) (L : List Ins) (h : ∀ x ∈ L, InOk x) (hl : L.length ≤ 1000000) : Ri (w.alloc (.cells (cei L).toArray 47)) (some ⟨w.heap.size, 0, none⟩) L.length L := by
  have h1 := World.ownsRow_lit (base := w.heap.size) (e := 47) (size := 3) w (cei L).toArray L.length (Nat.le_refl _) (by unfold maxLen; omega) (by simp [length_cei])
  exact (Ri.of_own (by simpa using h1) h).1
theorem awk_text : txL [(1, 3, 0), (31, 0, 0)] = [99, 111, 110, 115, 116, 32, 51, 10, 114, 101, 116, 10] := by
  have h1 : codM [(1, 3, 0), (31, 0, 0)] = true := by decide
  have h2 : wdB 1 = true := by decide
  have h3 : wdB 31 = false := by decide
  have h4 : nmI 1 = [99, 111, 110, 115, 116] := by decide
  have h5 : nmI 31 = [114, 101, 116] := by decide
  rw [txL, if_pos h1]
  simp only [codT, List.flatMap_cons, List.flatMap_nil, lnT, h2, h3, h4, h5, if_true]
  rw [show (3 : Int).toNat = 3 from rfl, dgT_lt (by decide)]
  rfl
set_option maxRecDepth 100000 in
set_option maxHeartbeats 2000000 in
theorem cawake_any (F : Fct) (KB : KBytes F) (KT : KText F) (KR : KRead F) (w : World) (hw : F.p w) : Calls Tryd.prog 19 #[] w fun e w' => e = .returned (.bool true) ∧ Below w.heap.size w w' := by
  have B1 : Hid (byL [(1, 3, 0), (31, 0, 0)] = [2, 1, 3, 0, 31] ∧ cdE [(1, 3, 0), (31, 0, 0)] = 0) := by unfold Hid; decide
  have T1 : Hid (rdC [0] 0 = (40, [], 0)) := by unfold Hid; decide
  have T2 : Hid (rdC [2, 1] 0 = (10, [], 0)) := by unfold Hid; decide
  have T3 : Hid (rdC [1, 1, 32, 0] 0 = (40, [], 0)) := by unfold Hid; decide
  have T4 : Hid (rdC [1, 33] 0 = (40, [], 0)) := by unfold Hid; decide
  have X1 := Lib.hid awk_text
  have R0 := Lib.hid (ri_lit w [(1, 3, 0), (31, 0, 0)] (by unfold InOk; decide) (by decide))
  have S0 := Lib.hid (((Sx.start w).add F hw).mk1 (.cells (cei [(1, 3, 0), (31, 0, 0)]).toArray 47))
  have S1 := Lib.hid (S0.out.add (fT _ _ _) R0.out)
  clear hw S0 R0
  go_enter Tryd.func19, Tryd.ntmps19
  go_wp2_with fail
  refine (KB _ _ 2 [(1, 3, 0), (31, 0, 0)] _ S1.out.2.2.1 S1.out.2.1 rfl (by decide)).mono ?_
  rintro e w2 ⟨A2, c2, rfl, ho2, hb2⟩
  rw [B1.out.1] at ho2 ⊢
  rw [B1.out.2]
  have S2 := Lib.hid ((S1.out.call hb2).add (fR A2 c2 [2, 1, 3, 0, 31]) (own_rd ho2 (byt_of rfl)))
  clear S1 hb2 ho2
  rw [show ([2, 1, 3, 0, 31] : List Int).length = 5 from rfl]
  go_wp2_with fail
  refine (KT _ _ 2 [(1, 3, 0), (31, 0, 0)] _ S2.out.2.2.2.1 S2.out.2.2.1 rfl (by decide)).mono ?_
  rintro e w3 ⟨rfl, hb3⟩
  rw [X1.out, B1.out.2]
  have S3 := Lib.hid (S2.out.call hb3)
  clear S2 hb3
  have k1 : (convert 24 9 (.slice A2 5 c2)).run Tryd.prog w3 = .ok (.string ⟨#[2, 1, 3, 0, 31]⟩) w3 := rd_string (P := Tryd.prog) S3.out.2.1 24 9 5 Tryd.underlying24 Tryd.underlying5 Tryd.underlying9
  rw [show strOfNums [99, 111, 110, 115, 116, 32, 51, 10, 114, 101, 116, 10] = ⟨#[99, 111, 110, 115, 116, 32, 51, 10, 114, 101, 116, 10]⟩ from rfl]
  go_wp2_with fail
  clear k1
  refine (ctold_t F KR _ 1 _ [0] 40 _ (F.keep _ _ S3.out.2.2.2.1 new1) (rd_lit w3 [0] (byt_of rfl) (by decide)) rfl T1.out).mono ?_
  rintro e w4 ⟨rfl, hb4⟩
  have S4 := Lib.hid (S3.out.call (below1 hb4))
  clear S3 hb4
  go_wp2_with fail
  refine (ctold_t F KR _ 2 _ [2, 1] 10 _ (F.keep _ _ S4.out.2.2.2.1 new1) (rd_lit w4 [2, 1] (byt_of rfl) (by decide)) rfl T2.out).mono ?_
  rintro e w5 ⟨rfl, hb5⟩
  have S5 := Lib.hid (S4.out.call (below1 hb5))
  clear S4 hb5
  go_wp2_with fail
  refine (ctold_t F KR _ 4 _ [1, 1, 32, 0] 40 _ (F.keep _ _ S5.out.2.2.2.1 new1) (rd_lit w5 [1, 1, 32, 0] (byt_of rfl) (by decide)) rfl T3.out).mono ?_
  rintro e w6 ⟨rfl, hb6⟩
  have S6 := Lib.hid (S5.out.call (below1 hb6))
  clear S5 hb6
  go_wp2_with fail
  refine (ctold_t F KR _ 2 _ [1, 33] 40 _ (F.keep _ _ S6.out.2.2.2.1 new1) (rd_lit w6 [1, 33] (byt_of rfl) (by decide)) rfl T4.out).mono ?_
  rintro e w7 ⟨rfl, hb7⟩
  have S7 := Lib.hid (S6.out.call (below1 hb7))
  clear S6 hb7
  go_wp2_with fail
  go_ret
  exact ⟨rfl, S7.out.1⟩
end Go.Proofs.YthmfjdafmnmgiaaDoor
