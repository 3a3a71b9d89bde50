/-
  Law ModuleParses: any bytes are the module's that the chapter says, or none's; what is told is the caller's own.
-/
import Derived.Test.YteimpkjpoijhmaaDoorRps
import Derived.Test.YteimpkjpoijhmaaDoorLr
namespace Go.Proofs.YteimpkjpoijhmaaDoor
open Go.RowKit
set_option maxRecDepth 100000
set_option linter.unusedSimpArgs false
set_option linter.unusedVariables false

theorem qPz_zero {l : List Int} {g p : List Vlu} {n : Int} {s : List Mz} {q : Int} (h : (qPz l g p n s q).2 ≠ 0) : (qPz l g p n s q).1 = Md.zero := by
  unfold qPz at h ⊢
  by_cases h1 : getE l q 1 = 0
  · rw [if_pos h1] at h ⊢
    by_cases h2 : (n ≤ getV l q 1 ∧ getV l q 1 ≠ 255) ∨ getN l q 1 < l.length
    · rw [if_pos h2]
    · rw [if_neg h2] at h
      exact absurd rfl h
  · rw [if_neg h1]
theorem qPs_zero {l : List Int} {g p : List Vlu} {n : Int} {r : List Mz × Int × Int} (h : (qPs l g p n r).2 ≠ 0) : (qPs l g p n r).1 = Md.zero := by
  unfold qPs at h ⊢
  by_cases h1 : r.2.2 = 0
  · rw [if_pos h1] at h ⊢
    exact qPz_zero h
  · rw [if_neg h1]
theorem qPm_zero {l : List Int} {g : List Vlu} {r : List Vlu × Int × Int} (h : (qPm l g r).2 ≠ 0) : (qPm l g r).1 = Md.zero := by
  unfold qPm at h ⊢
  by_cases h1 : r.2.2 = 0
  · rw [if_pos h1] at h ⊢
    by_cases h2 : getE l r.2.1 1 = 0
    · rw [if_pos h2] at h ⊢
      by_cases h3 : 16 < getV l r.2.1 1
      · rw [if_pos h3]
      · rw [if_neg h3] at h ⊢
        exact qPs_zero h
    · rw [if_neg h2]
  · rw [if_neg h1]
theorem qP_zero {l : List Int} (h : (qP l).2 ≠ 0) : (qP l).1 = Md.zero := by
  unfold qP at h ⊢
  by_cases h1 : 2000 < l.length
  · rw [if_pos h1]
  · rw [if_neg h1] at h ⊢
    unfold qPg at h ⊢
    by_cases h2 : (rdP l 0).2.2 = 0
    · rw [if_pos h2] at h ⊢
      by_cases h3 : 4 < (rdP l 0).1.length
      · rw [if_pos h3]
      · rw [if_neg h3] at h ⊢
        exact qPm_zero h
    · rw [if_neg h2]
theorem qP_G {l : List Int} (hb : Byt l) : qG (qP l).1 = false := by
  by_cases h : (qP l).2 = 0
  · exact qE_qG (qP_inv hb (d := (qP l).1) (by rw [← h])).1
  · rw [qP_zero h]
    rfl
set_option maxHeartbeats 8000000 in
theorem m8parses_walk (A : Option Addr) (c n : Nat) (l : List Int) (w : World) (hw : fWM.p w) (hr : Rd w A c l) (hn : l.length = n) : Calls Tryd.prog 4 #[.slice A n c] w fun r w' => r = .returned (.bool true) ∧ Below w.heap.size w w' := by
  obtain ⟨d, e, hd⟩ : ∃ d e, qP l = (d, e) := ⟨_, _, rfl⟩
  have HD := Lib.hid hd
  have HG : Hid (qG d = false) := by
    have h := qP_G hr.byt
    rw [hd] at h
    exact h
  have HR := Lib.hid hr
  have HW := Lib.hid hw
  have HN := Lib.hid hn
  have HBY := Lib.hid hr.byt
  clear hd hw
  by_cases h3 : 3000 < n
  · clear hr hn
    go_enter Tryd.func4, Tryd.ntmps4
    go_wp2_with fail
    go_ret
    exact ⟨rfl, Below.refl _ _⟩
  · obtain ⟨i0, hi, hz0, hz1, hz2⟩ := info_parts Tryd.info5
    clear hr hn
    go_enter Tryd.func4, Tryd.ntmps4
    go_wp2_with (at_builtin; refine wpList_append_rd _ rfl (.tmp 12) (.tmp 13) 28 rfl w.heap.size 5 i0 Tryd.underlying28 hi hz0 hz1 hz2 _ 0 [] rfl (World.ownsRow_lit w #[] 0 (Nat.le_refl _) (Nat.zero_le _) rfl) A n c l rfl (Rd.alloc HR.out _) HN.out.symm (by omega) (by simp) ?_)
    intro A3 c3 w3 ho hg hb _
    have S3 := Lib.hid (((Sx.start w).call (new1.trans hb)).add (fR A3 c3 l) (own_rd (by simpa using ho) HBY.out))
    clear ho hg hb hi hz0 hz1 hz2
    go_wp2_with fail
    refine (r8parse_v A c n l _ (HR.out.keep S3.out.1) HN.out (by omega)).mono ?_
    rintro r w4 ⟨y0, rfl, hq, hb⟩
    rw [HD.out] at hq ⊢
    dsimp only at hq ⊢
    have S4 := Lib.hid (((S3.out.call hb).add (fQm y0 d) hq).mkD y0 d)
    clear hq hb S3
    go_upto_region 5 with (fail)
    obtain ⟨w5, hw5⟩ : ∃ w5, w4.alloc (dcel y0 d) = w5 := ⟨_, rfl⟩
    rw [hw5] at S4
    rw [dcel] at hw5
    rw [hw5]
    obtain ⟨T4, hT⟩ : ∃ T, w4.heap.size = T := ⟨_, rfl⟩
    rw [hT] at S4 ⊢
    clear hT hw5
    go_wp2_with fail
    go_loopw [6] (fun i wr => ∃ j : Nat, j ≤ 2 ∧ i = .int .i64 j ∧ Hid (Sx w wr [fD T4 y0 d, fQm y0 d, fR A3 c3 l])) (fun i _ => 2 - (intOf i).toNat)
    case atStart => exact ⟨0, by omega, rfl, S4⟩
    case round =>
      obtain ⟨j, hj, rfl, SR⟩ := hrel
      clear S4
      by_cases h1 : j < 2
      · go_wp2_with fail
        refine (mparse_v A3 c3 n l _ (fWM.keep _ _ HW.out SR.out.1) SR.out.2.2.2.1 HN.out (by omega)).mono ?_
        rintro r w6 ⟨y, rfl, hq, ho, hb⟩
        rw [HD.out] at hq ho ⊢
        dsimp only at hq ho ⊢
        have S6 := Lib.hid (((SR.out.call hb).add (fQm y d) hq).mkD y d)
        have HO6 := Lib.hid (ho.keep (new1 (a := dcel y d)))
        have HB6 : Hid (Below wr.heap.size wr (w6.alloc (dcel y d))) := Lib.hid (hb.alloc hb.size _)
        have hsz : w6.heap.size ≤ (w6.alloc (dcel y d)).heap.size := by rw [size1]; omega
        have hlo := hb.size
        obtain ⟨lo, hlo2⟩ : ∃ k, wr.heap.size = k := ⟨_, rfl⟩
        obtain ⟨hi, hhi⟩ : ∃ k, w6.heap.size = k := ⟨_, rfl⟩
        rw [hlo2, hhi] at hlo
        rw [hlo2] at HO6 HB6
        rw [hhi] at HO6 hsz
        clear hq ho hb
        go_upto_region 9 with (fail)
        obtain ⟨w7, hw7⟩ : ∃ w7, w6.alloc (dcel y d) = w7 := ⟨_, rfl⟩
        rw [hw7] at S6 HO6 HB6 hsz
        rw [dcel] at hw7
        rw [hw7]
        rw [hhi] at S6
        (try rw [hhi])
        clear hhi hw7
        obtain ⟨-, ⟨a0, a1, a2, a3, a4⟩, -, ⟨z0, z1, z2, z3, z4⟩, -⟩ := S6.out
        go_wp2_with fail
        refine (r8same_v y y0 d d true _ S6.out.2.2.1 S6.out.2.2.2.2.1 (qS_self d)).mono ?_
        rintro r w8 ⟨rfl, hb⟩
        have S8 := Lib.hid (S6.out.call hb)
        have HO8 := Lib.hid (HO6.out.keep hb)
        have HB8 := Lib.hid (HB6.out.trans (hb.mono (Nat.le_trans hlo hsz)))
        have hsz8 := Nat.le_trans hsz hb.size
        clear hb S6 HO6 HB6 hsz a0 a1 a2 a3 a4 z0 z1 z2 z3 z4
        have k1 := rd_string (P := Tryd.prog) S8.out.2.2.2.2.2.1 28 9 5 Tryd.underlying28 Tryd.underlying5 Tryd.underlying9
        have k2 := rd_string (P := Tryd.prog) (HR.out.keep S8.out.1) 28 9 5 Tryd.underlying28 Tryd.underlying5 Tryd.underlying9
        rw [HN.out] at k1 k2
        generalize strOfNums l = s at k1 k2
        obtain ⟨-, ⟨a0, a1, a2, a3, a4⟩, -⟩ := S8.out
        go_wp2_with fail
        refine (spoilw S8.out.2.2.1 HO8.out hsz8 HG.out).mono ?_
        rintro r w9 ⟨rfl, hsp⟩
        have SN := Lib.hid (SR.out.call (w' := w9) (hlo2 ▸ HB8.out.trans (hsp.toBelow (Nat.le_trans hlo hsz8))))
        clear hsp S8 HO8 HB8 hsz8 k1 k2 a0 a1 a2 a3 a4 SR
        go_wp2_with fail
        go_roundw
        case rel => exact ⟨j + 1, by omega, by go_num, SN⟩
        case measure => simp [intOf]; omega
      · obtain rfl : j = 2 := by omega
        have HE := Lib.hid SR.out.1
        clear SR
        go_wp2_with fail
        go_ret
        exact ⟨rfl, HE.out⟩
end Go.Proofs.YteimpkjpoijhmaaDoor
