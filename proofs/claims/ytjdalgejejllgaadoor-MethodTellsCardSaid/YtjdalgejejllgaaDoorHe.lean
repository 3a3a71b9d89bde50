/-
  That the chapter's examples hold (the statements' 'awake' of layer 7), and 'told'; nothing that was there has changed.
-/
import Derived.Test.YtjdalgejejllgaaDoorHc
import Derived.Test.YtjdalgejejllgaaDoorHq
namespace Go.Proofs.YtjdalgejejllgaaDoor
open Go.RowKit
set_option maxRecDepth 100000
set_option linter.unusedSimpArgs false
set_option linter.unusedVariables false

/-- Is reading some bytes told that error? -/
def tl7 (l : List Int) (e : Int) : Bool := mS (rdQ l 0).1 Mh.zero && ((rdQ l 0).2.1 == 0 && (rdQ l 0).2.2 == e)
set_option maxHeartbeats 2000000 in
theorem told7_v (A : Option Addr) (c n : Nat) (l : List Int) (e : Int) (v : Bool) (w : World) (hr : Rd w A c l) (hn : l.length = n) (hw : GM w) (hv : tl7 l e = v) :
    Calls Tryd.prog 29 #[.int .i64 e, .slice A n c] w fun x w' => x = .returned (.bool v) ∧ Below w.heap.size w w' := by
  have HV := Lib.hid hv
  obtain ⟨R, hR⟩ : ∃ R, rdQ l 0 = R := ⟨_, rfl⟩
  have P1 := Lib.hid (mread_v A c n l 0 R w hr hn hw hR)
  rw [tl7, hR] at HV
  obtain ⟨m, q, e0⟩ := R
  clear hr hw hR hv
  simp only at P1 HV
  go_enter Tryd.func29, Tryd.ntmps29
  go_wp2_with fail
  refine P1.out.mono ?_
  rintro x w1 ⟨y, rfl, -, -, h1, hb1⟩
  have S1 := Lib.hid ((((Sx.start w).call hb1).add (fH y m) h1).mkM y m)
  clear P1 h1 hb1
  obtain ⟨-, ⟨z0, z1, z2, z3, z4, z5, z6, z7, z8⟩, -⟩ := S1.out
  go_wp2_with fail
  refine (r7sam_v y Mc.zero m Mh.zero (mS m Mh.zero) _ S1.out.2.2.1 (Hd.zero _) rfl).mono ?_
  rintro x w2 ⟨rfl, hb2⟩
  have S2 := Lib.hid (S1.out.call hb2)
  clear hb2 S1 z0 z1 z2 z3 z4 z5 z6 z7 z8
  cases hm : mS m Mh.zero with
  | false =>
    rw [hm] at HV
    go_wp2_with fail
    go_ret
    exact ⟨by rw [← HV.out]; rfl, S2.out.1⟩
  | true =>
    rw [hm] at HV
    by_cases hq : q = 0
    · have hq2 : (q == 0) = true := by simpa using hq
      rw [hq2] at HV
      clear hq
      go_wp2_with fail
      go_ret
      exact ⟨by rw [← HV.out]; simp, S2.out.1⟩
    · have hq2 : (q == 0) = false := by simpa using hq
      rw [hq2] at HV
      clear hq
      go_wp2_with fail
      go_ret
      exact ⟨by rw [← HV.out]; simp, S2.out.1⟩
set_option maxHeartbeats 4000000 in
theorem awake7_any (w : World) (hw : GM w) : Calls Tryd.prog 28 #[] w fun e w' => e = .returned (.bool true) ∧ Below w.heap.size w w' := by
  have B1 : Hid (mL ⟨[1], [2], 1, true, 258, 3, 0⟩ = [1, 1, 1, 2, 1, 1, 2, 1, 0, 3, 0, 0, 0] ∧ mE ⟨[1], [2], 1, true, 258, 3, 0⟩ = 0) := by unfold Hid; decide
  have T1 : Hid (tl7 [5] 70 = true) := by unfold Hid; decide
  have T2 : Hid (tl7 [1] 10 = true) := by unfold Hid; decide
  have T3 : Hid (tl7 [1, 4] 70 = true) := by unfold Hid; decide
  have T4 : Hid (tl7 [0, 17] 70 = true) := by unfold Hid; decide
  have S0 := Lib.hid (((Sx.start w).add fGM hw).mk1 (.cells (cel [1]).toArray 5))
  have S1 := Lib.hid (((S0.out.add (fR _ _ _) (rd_lit w [1] (byt_of rfl) (by decide))).mk1 (.cells (cel [2]).toArray 5)).add (fR _ _ _) (rd_lit (w.alloc (.cells (cel [1]).toArray 5)) [2] (byt_of rfl) (by decide)))
  rw [size1] at S1
  have P1 := Lib.hid (mbytes_v ⟨some ⟨w.heap.size, 0, none⟩, 1, some ⟨w.heap.size + 1, 0, none⟩, 1, none, 0, 0⟩ ⟨[1], [2], 1, true, 258, 3, 0⟩ _ ⟨S1.out.2.2.1, S1.out.2.1, by unfold Mh.nums; decide⟩ S1.out.2.2.2.1)
  rw [B1.out.1, B1.out.2] at P1
  clear hw S0
  go_enter Tryd.func28, Tryd.ntmps28
  go_wp2_with fail
  refine P1.out.mono ?_
  rintro e w3 ⟨A3, c3, rfl, ho3, hb3⟩
  have S3 := Lib.hid ((S1.out.call hb3).add (fR A3 c3 [1, 1, 1, 2, 1, 1, 2, 1, 0, 3, 0, 0, 0]) (own_rd ho3 (byt_of rfl)))
  clear S1 hb3 ho3 P1 B1
  rw [show ([1, 1, 1, 2, 1, 1, 2, 1, 0, 3, 0, 0, 0] : List Int).length = 13 from rfl]
  have k1 : (convert 22 9 (.slice A3 13 c3)).run Tryd.prog w3 = .ok (.string ⟨#[1, 1, 1, 2, 1, 1, 2, 1, 0, 3, 0, 0, 0]⟩) w3 := rd_string (P := Tryd.prog) S3.out.2.1 22 9 5 Tryd.underlying22 Tryd.underlying5 Tryd.underlying9
  go_wp2_with fail
  have Q1 := Lib.hid (told7_v (some ⟨w3.heap.size, 0, none⟩) 1 1 [5] 70 true _ (rd_lit w3 [5] (byt_of rfl) (by decide)) rfl (fGM.keep _ _ S3.out.2.2.2.2.1 new1) T1.out)
  refine Q1.out.mono ?_
  rintro e w4 ⟨rfl, hb4⟩
  have S4 := Lib.hid (S3.out.call (below1 hb4))
  clear S3 hb4 Q1 k1
  go_wp2_with fail
  have Q2 := Lib.hid (told7_v (some ⟨w4.heap.size, 0, none⟩) 1 1 [1] 10 true _ (rd_lit w4 [1] (byt_of rfl) (by decide)) rfl (fGM.keep _ _ S4.out.2.2.2.2.1 new1) T2.out)
  refine Q2.out.mono ?_
  rintro e w5 ⟨rfl, hb5⟩
  have S5 := Lib.hid (S4.out.call (below1 hb5))
  clear S4 hb5 Q2
  go_wp2_with fail
  have Q3 := Lib.hid (told7_v (some ⟨w5.heap.size, 0, none⟩) 2 2 [1, 4] 70 true _ (rd_lit w5 [1, 4] (byt_of rfl) (by decide)) rfl (fGM.keep _ _ S5.out.2.2.2.2.1 new1) T3.out)
  refine Q3.out.mono ?_
  rintro e w6 ⟨rfl, hb6⟩
  have S6 := Lib.hid (S5.out.call (below1 hb6))
  clear S5 hb6 Q3
  go_wp2_with fail
  have Q4 := Lib.hid (told7_v (some ⟨w6.heap.size, 0, none⟩) 2 2 [0, 17] 70 true _ (rd_lit w6 [0, 17] (byt_of rfl) (by decide)) rfl (fGM.keep _ _ S6.out.2.2.2.2.1 new1) T4.out)
  refine Q4.out.mono ?_
  rintro e w7 ⟨rfl, hb7⟩
  have S7 := Lib.hid (S6.out.call (below1 hb7))
  clear S6 hb7 Q4
  go_wp2_with fail
  go_ret
  exact ⟨rfl, S7.out.1⟩
end Go.Proofs.YtjdalgejejllgaaDoor
