/-
  The walk of ModuleBack over its contracts: for every module, all bytes, every byte it returns true; nothing that was there has changed.
-/
import Derived.Test.YteimpkjpoijhmaaDoorMw
namespace Go.Proofs.YteimpkjpoijhmaaDoor
open Go.RowKit
set_option maxRecDepth 100000
set_option linter.unusedSimpArgs false
set_option linter.unusedVariables false

theorem qPz_zero {l : List Int} {g p : List Vlu} {n : Int} {s : List Mz} {q : Int} (h : (qPz l g p n s q).2 ≠ 0) : (qPz l g p n s q).1 = Md.zero := by
  unfold qPz at h ⊢
  by_cases h1 : getE l q 1 = 0
  · rw [if_pos h1] at h ⊢
    by_cases h2 : (n ≤ getV l q 1 ∧ getV l q 1 ≠ 255) ∨ getN l q 1 < l.length
    · rw [if_pos h2]
    · rw [if_neg h2] at h
      exact absurd rfl h
  · rw [if_neg h1]
theorem qPs_zero {l : List Int} {g p : List Vlu} {n : Int} {r : List Mz × Int × Int} (h : (qPs l g p n r).2 ≠ 0) : (qPs l g p n r).1 = Md.zero := by
  unfold qPs at h ⊢
  by_cases h1 : r.2.2 = 0
  · rw [if_pos h1] at h ⊢
    exact qPz_zero h
  · rw [if_neg h1]
theorem qPm_zero {l : List Int} {g : List Vlu} {r : List Vlu × Int × Int} (h : (qPm l g r).2 ≠ 0) : (qPm l g r).1 = Md.zero := by
  unfold qPm at h ⊢
  by_cases h1 : r.2.2 = 0
  · rw [if_pos h1] at h ⊢
    by_cases h2 : getE l r.2.1 1 = 0
    · rw [if_pos h2] at h ⊢
      by_cases h3 : 16 < getV l r.2.1 1
      · rw [if_pos h3]
      · rw [if_neg h3] at h ⊢
        exact qPs_zero h
    · rw [if_neg h2]
  · rw [if_neg h1]
theorem qP_zero {l : List Int} (h : (qP l).2 ≠ 0) : (qP l).1 = Md.zero := by
  unfold qP at h ⊢
  by_cases h1 : 2000 < l.length
  · rw [if_pos h1]
  · rw [if_neg h1] at h ⊢
    unfold qPg at h ⊢
    by_cases h2 : (rdP l 0).2.2 = 0
    · rw [if_pos h2] at h ⊢
      by_cases h3 : 4 < (rdP l 0).1.length
      · rw [if_pos h3]
      · rw [if_neg h3] at h ⊢
        exact qPm_zero h
    · rw [if_neg h2]
set_option maxHeartbeats 8000000 in
theorem m8back_walk (F : Fct) (KB : KMBytes F) (KM : KMMay F) (KS : KMSame F) (KP : KMParse F) (y : Ma) (d : Md) (A2 : Option Addr) (c2 n2 : Nat) (lb : List Int) (u : Int) (w : World) (hw : F.p w) (hy : Hq w y d) (hr2 : Rd w A2 c2 lb) (hn2 : lb.length = n2) (hu : 0 ≤ u ∧ u < 256) :
    Calls Tryd.prog 5 #[dv y d, .slice A2 n2 c2, .int .u8 u] w fun r w' => r = .returned (.bool true) ∧ Below w.heap.size w w' := by
  have HNB := Lib.hid hn2
  have hl2 : n2 ≤ 9223372036854775807 := by rw [← hn2]; exact hr2.len
  have HB2 := Lib.hid hr2.byt
  have HOK := Lib.hid (qok_of hy)
  obtain ⟨st, hst⟩ : ∃ s, strOfNums lb = s := ⟨_, rfl⟩
  have HST := Lib.hid hst
  obtain ⟨i0, hi, hz0, hz1, hz2⟩ := info_parts Tryd.info5
  have S0 := Lib.hid (((((Sx.start w).add F hw).add (fQm y d) hy).add (fR A2 c2 lb) hr2).mkD y d)
  clear hy hr2 hw hn2 hst
  go_enter Tryd.func5, Tryd.ntmps5
  go_wp2_with fail
  refine (awake8_any F KB KP _ S0.out.2.2.2.2.1).mono ?_
  rintro r1 w1 ⟨rfl, hb1⟩
  have S1 := Lib.hid (S0.out.call hb1)
  clear hb1 S0
  obtain ⟨-, ⟨x0, x1, x2, x3, x4⟩, -⟩ := S1.out
  go_wp2_with fail
  refine (great8_v y d _ S1.out.2.2.2.1).mono ?_
  rintro r1 w2 ⟨rfl, hb2⟩
  have S2 := Lib.hid (S1.out.call hb2)
  clear hb2 S1 x0 x1 x2 x3 x4
  cases g1 : qG d with
  | true =>
    go_wp2_with fail
    go_ret
    exact ⟨rfl, S2.out.1⟩
  | false =>
    by_cases hlb : 3000 < n2
    · go_wp2_with fail
      go_ret
      exact ⟨rfl, S2.out.1⟩
    · have HG := Lib.hid g1
      clear g1
      obtain ⟨-, ⟨x0, x1, x2, x3, x4⟩, -⟩ := S2.out
      have PB := Lib.hid (KB y d _ S2.out.2.2.2.2.1 S2.out.2.2.2.1 HG.out)
      have PM := fun w1 h1 h2 => Lib.hid (KM y d w1 h1 h2 HG.out)
      by_cases hE : qE d = 0
      · have HX : Hid (qB d = qX d) := by rw [Hid, qB, if_pos hE]
        have HXB := Lib.hid (qX_byt hE HOK.out)
        have hp := qE_parts hE
        obtain ⟨nX, hnX⟩ : ∃ n, (qX d).length = n := ⟨_, rfl⟩
        have HNX := Lib.hid hnX
        have hnX2 : nX ≤ 2000 := by rw [← hnX]; exact hp.2.2.2.2.2.2.2
        have hnX1 : 1 ≤ nX := by rw [← hnX, qX_H]; simp
        have HPE := Lib.hid (qP_enc hE HOK.out)
        have HPM := Lib.hid (qP_more hE HOK.out hu)
        have HPC : Hid (tl8 ((qX d).take (nX - 1)) 10 = true) := by
          have := qP_cut hE HOK.out
          rw [hnX] at this
          rw [Hid, tl8, this, qS_self]
          rfl
        rw [hE, HX.out, hnX] at PB
        rw [hE] at PM
        clear hE hp hnX
        go_wp2_with fail
        refine PB.out.mono ?_
        rintro r1 w3 ⟨A4, c4, rfl, ho4, hb4⟩
        have S4 := Lib.hid ((S2.out.call hb4).add (fR A4 c4 (qX d)) (own_rd ho4 HXB.out))
        clear ho4 hb4 S2 PB x0 x1 x2 x3 x4
        obtain ⟨-, -, ⟨x0, x1, x2, x3, x4⟩, -⟩ := S4.out
        go_wp2_with fail
        refine (PM _ S4.out.2.2.2.2.2.1 S4.out.2.2.2.2.1).out.mono ?_
        rintro r1 w4 ⟨rfl, hb5⟩
        have S5 := Lib.hid (S4.out.call hb5)
        clear hb5 S4 PM x0 x1 x2 x3 x4
        go_wp2_with fail
        refine (KP A4 c4 nX (qX d) _ S5.out.2.2.2.2.2.1 S5.out.2.1 HNX.out (by omega)).mono ?_
        rintro r1 w5 ⟨y2, rfl, h2, hb6⟩
        rw [HPE.out] at h2 ⊢
        dsimp only at h2 ⊢
        have S6 := Lib.hid (((S5.out.call hb6).add (fQm y2 d) h2).mkD y2 d)
        clear S5 h2 hb6
        go_upto_region 10 with (fail)
        have S6' : Hid (Sx w (w5.alloc (.cells #[.slice y2.G d.g.length y2.gc, .slice y2.P d.p.length y2.pc, .slice y2.A d.s.length y2.c, .int .i64 d.i] 25)) [fD w5.heap.size y2 d, fQm y2 d, fR A4 c4 (qX d), fD w.heap.size y d, fR A2 c2 lb, fQm y d, F]) := S6
        clear S6
        generalize w5.alloc (.cells #[.slice y2.G d.g.length y2.gc, .slice y2.P d.p.length y2.pc, .slice y2.A d.s.length y2.c, .int .i64 d.i] 25) = w6 at S6' ⊢
        generalize w5.heap.size = T2 at S6' ⊢
        have S7 := S6'
        clear S6'
        have hs7 := S7.out.1.size
        go_wp2_with (at_builtin; refine wpList_append_rd _ rfl (.tmp 57) (.tmp 58) 28 rfl w6.heap.size 5 i0 Tryd.underlying28 hi hz0 hz1 hz2 _ 0 [] rfl (World.ownsRow_lit w6 #[] 0 (Nat.le_refl _) (Nat.zero_le _) rfl) A4 nX c4 (qX d) rfl (Rd.alloc S7.out.2.2.2.1 _) HNX.out.symm (by omega) (by simp) ?_)
        intro A5 c5 w7 ho5 _ hb5 _
        have HO5 : Hid (w7.ownsRow w6.heap.size 5 1 (.slice A5 nX c5) nX (cel (qX d))) := Lib.hid (by simpa using ho5)
        have HB5 := Lib.hid (new1.trans hb5)
        clear ho5 hb5
        have HOx := Lib.hid (own_below (B := w6.heap.size) HO5.out (new1 (a := .cells #[.int .u8 u] 5)) (Nat.le_refl _))
        have HRx := Lib.hid (rd_one w7 u hu)
        have HBx : Hid (Below w6.heap.size w6 (w7.alloc (.cells #[.int .u8 u] 5))) := HB5.out.alloc HB5.out.size _
        clear HO5 HB5
        go_wp2_with (at_builtin; refine wpList_append_rd _ rfl (.tmp 59) (.tmp 61) 28 rfl w6.heap.size 5 i0 Tryd.underlying28 hi hz0 hz1 hz2 _ nX (qX d) rfl HOx.out _ 1 1 [u] rfl HRx.out rfl (by omega) HBx.out.size ?_)
        intro A6 c6 w8 ho6 _ hb6 _
        have S8 := Lib.hid ((S7.out.call (HBx.out.trans hb6)).add (fR A6 c6 (qX d ++ [u])) (own_rd ho6 (byt_app HXB.out (one_byt hu))))
        clear ho6 hb6 HOx HRx HBx S7 hs7
        go_wp2_with fail
        refine (KP A6 c6 (nX + 1) (qX d ++ [u]) _ S8.out.2.2.2.2.2.2.2.2.1 S8.out.2.1 (by rw [List.length_append, HNX.out]; rfl) (by omega)).mono ?_
        rintro r1 w9 ⟨y3, rfl, h3, hb7⟩
        obtain ⟨d3, hd3⟩ : ∃ d3, (qP (qX d ++ [u])).1 = d3 := ⟨_, rfl⟩
        obtain ⟨e3, he3⟩ : ∃ e3, (qP (qX d ++ [u])).2 = e3 := ⟨_, rfl⟩
        have hne : e3 ≠ 0 := by rw [← he3]; exact HPM.out
        have hne' : (e3 == 0) = false := by simpa using hne
        rw [hd3, he3]
        have S9 := Lib.hid ((S8.out.call hb7).mkD y3 d3)
        clear h3 hb7 hd3 he3 hne HPM S8
        go_upto_region 11 with (fail)
        have S9' : Hid (Sx w (w9.alloc (.cells #[.slice y3.G d3.g.length y3.gc, .slice y3.P d3.p.length y3.pc, .slice y3.A d3.s.length y3.c, .int .i64 d3.i] 25)) [fD w9.heap.size y3 d3, fR A6 c6 (qX d ++ [u]), fD T2 y2 d, fQm y2 d, fR A4 c4 (qX d), fD w.heap.size y d, fR A2 c2 lb, fQm y d, F]) := S9
        clear S9
        generalize w9.alloc (.cells #[.slice y3.G d3.g.length y3.gc, .slice y3.P d3.p.length y3.pc, .slice y3.A d3.s.length y3.c, .int .i64 d3.i] 25) = w10 at S9' ⊢
        have S9 := S9'
        clear S9'
        have S10 : Hid (Sx w w10 [fD T2 y2 d, fQm y2 d, fR A4 c4 (qX d), fD w.heap.size y d, fR A2 c2 lb, fQm y d, F]) := Lib.hid ⟨S9.out.1, S9.out.2.2.2⟩
        clear S9
        obtain ⟨-, ⟨o0, o1, o2, o3, o4⟩, -, -, ⟨x0, x1, x2, x3, x4⟩, -⟩ := S10.out
        go_wp2_with fail
        refine (KS y2 y d d _ S10.out.2.2.2.2.2.2.2.1 S10.out.2.2.1 S10.out.2.2.2.2.2.2.1 HG.out HG.out).mono ?_
        rintro r1 w11 ⟨rfl, hb11⟩
        rw [qS_self]
        have S11 := Lib.hid (S10.out.call hb11)
        clear hb11 S10 o0 o1 o2 o3 o4 x0 x1 x2 x3 x4
        have hcap : nX ≤ c4 := by
          have := (S11.out.2.2.2.1 : Rd w11 A4 c4 (qX d)).le
          rwa [HNX.out] at this
        have hcm : c4 ≤ 9223372036854775807 := (S11.out.2.2.2.1 : Rd w11 A4 c4 (qX d)).cap
        go_wp2_with fail
        refine (told8_v F KP A4 c4 (nX - 1) ((qX d).take (nX - 1)) 10 true _ S11.out.2.2.2.2.2.2.2.1 (Rd.pre S11.out.2.2.2.1 _) (by rw [List.length_take, HNX.out]; omega) (by omega) HPC.out).mono ?_
        rintro r1 w12 ⟨rfl, hb12⟩
        have S12 := Lib.hid (S11.out.call hb12)
        clear hb12 S11
        go_wp2_with fail
        refine (KP A2 c2 n2 lb _ S12.out.2.2.2.2.2.2.2.1 S12.out.2.2.2.2.2.1 HNB.out (by omega)).mono ?_
        rintro r1 wr1 ⟨y5, rfl, h5, hbr1⟩
        obtain ⟨d5, hd5⟩ : ∃ d5, (qP lb).1 = d5 := ⟨_, rfl⟩
        obtain ⟨e5, he5⟩ : ∃ e5, (qP lb).2 = e5 := ⟨_, rfl⟩
        have HP5 : Hid (qP lb = (d5, e5)) := by rw [Hid, ← hd5, ← he5]
        rw [hd5] at h5
        rw [hd5, he5]
        have SR1 := Lib.hid (((S12.out.call hbr1).add (fQm y5 d5) h5).mkD y5 d5)
        clear S12 h5 hbr1 hd5 he5
        obtain ⟨-, ⟨o0, o1, o2, o3, o4⟩, -⟩ := SR1.out
        by_cases he : e5 = 0
        · subst he
          obtain ⟨hq1, hq2, hq3⟩ := qP_inv HB2.out HP5.out
          have KB5 := Lib.hid (KB y5 d5 _ SR1.out.2.2.2.2.2.2.2.2.2.1 SR1.out.2.2.1 (qE_qG hq1))
          rw [show qB d5 = lb from by rw [qB, if_pos hq1, hq2], hq1, HNB.out] at KB5
          clear hq1 hq2 hq3
          go_wp2_with fail
          refine KB5.out.mono ?_
          rintro r1 wr2 ⟨A8, c8, rfl, ho8, hb8⟩
          have SR2 := Lib.hid ((SR1.out.call hb8).add (fR A8 c8 lb) (own_rd ho8 HB2.out))
          clear ho8 hb8 KB5 SR1 o0 o1 o2 o3 o4
          have k1 := rd_string (P := Tryd.prog) SR2.out.2.1 28 9 5 Tryd.underlying28 Tryd.underlying5 Tryd.underlying9
          have k2 := rd_string (P := Tryd.prog) SR2.out.2.2.2.2.2.2.2.2.1 28 9 5 Tryd.underlying28 Tryd.underlying5 Tryd.underlying9
          rw [HST.out, HNB.out] at k1 k2
          go_wp2_with fail
          go_ret
          exact ⟨rfl, SR2.out.1⟩
        · have he' : (e5 != 0) = true := by simpa using he
          have hz : d5 = Md.zero := by
            have := qP_zero (l := lb) (by rw [HP5.out]; exact he)
            rw [HP5.out] at this
            exact this
          subst hz
          clear he
          go_wp2_with fail
          refine (r8same_v y5 Ma.zero Md.zero Md.zero true _ SR1.out.2.2.1 (Hq.zero _) (qS_self _)).mono ?_
          rintro r1 wr2 ⟨rfl, hb8⟩
          have SR2 := Lib.hid (SR1.out.call hb8)
          clear hb8 SR1 o0 o1 o2 o3 o4
          go_wp2_with fail
          go_ret
          exact ⟨rfl, SR2.out.1⟩
      · have HX : Hid (qB d = []) := by rw [Hid, qB, if_neg hE]
        rw [HX.out] at PB
        obtain ⟨e0, he0⟩ : ∃ e0, qE d = e0 := ⟨_, rfl⟩
        rw [he0] at PB PM hE
        clear he0
        have hE1 : (e0 == 0) = false := by simpa using hE
        have hE2 : (e0 != 0) = true := by simpa using hE
        clear hE
        go_wp2_with fail
        refine PB.out.mono ?_
        rintro r1 w3 ⟨A4, c4, rfl, -, hb4⟩
        have S4 := Lib.hid (S2.out.call hb4)
        clear hb4 S2 PB x0 x1 x2 x3 x4
        obtain ⟨-, ⟨x0, x1, x2, x3, x4⟩, -⟩ := S4.out
        go_wp2_with fail
        refine (PM _ S4.out.2.2.2.2.1 S4.out.2.2.2.1).out.mono ?_
        rintro r1 w4 ⟨rfl, hb5⟩
        have S5 := Lib.hid (S4.out.call hb5)
        clear hb5 S4 PM x0 x1 x2 x3 x4
        go_wp2_with fail
        refine (KP A2 c2 n2 lb _ S5.out.2.2.2.2.1 S5.out.2.2.1 HNB.out (by omega)).mono ?_
        rintro r1 wr1 ⟨y5, rfl, h5, hbr1⟩
        obtain ⟨d5, hd5⟩ : ∃ d5, (qP lb).1 = d5 := ⟨_, rfl⟩
        obtain ⟨e5, he5⟩ : ∃ e5, (qP lb).2 = e5 := ⟨_, rfl⟩
        have HP5 : Hid (qP lb = (d5, e5)) := by rw [Hid, ← hd5, ← he5]
        rw [hd5] at h5
        rw [hd5, he5]
        have SR1 := Lib.hid (((S5.out.call hbr1).add (fQm y5 d5) h5).mkD y5 d5)
        clear S5 h5 hbr1 hd5 he5
        obtain ⟨-, ⟨o0, o1, o2, o3, o4⟩, -⟩ := SR1.out
        by_cases he : e5 = 0
        · subst he
          obtain ⟨hq1, hq2, hq3⟩ := qP_inv HB2.out HP5.out
          have KB5 := Lib.hid (KB y5 d5 _ SR1.out.2.2.2.2.2.2.1 SR1.out.2.2.1 (qE_qG hq1))
          rw [show qB d5 = lb from by rw [qB, if_pos hq1, hq2], hq1, HNB.out] at KB5
          clear hq1 hq2 hq3
          go_wp2_with fail
          refine KB5.out.mono ?_
          rintro r1 wr2 ⟨A8, c8, rfl, ho8, hb8⟩
          have SR2 := Lib.hid ((SR1.out.call hb8).add (fR A8 c8 lb) (own_rd ho8 HB2.out))
          clear ho8 hb8 KB5 SR1 o0 o1 o2 o3 o4
          have k1 := rd_string (P := Tryd.prog) SR2.out.2.1 28 9 5 Tryd.underlying28 Tryd.underlying5 Tryd.underlying9
          have k2 := rd_string (P := Tryd.prog) SR2.out.2.2.2.2.2.1 28 9 5 Tryd.underlying28 Tryd.underlying5 Tryd.underlying9
          rw [HST.out, HNB.out] at k1 k2
          go_wp2_with fail
          go_ret
          exact ⟨rfl, SR2.out.1⟩
        · have he' : (e5 != 0) = true := by simpa using he
          have hz : d5 = Md.zero := by
            have := qP_zero (l := lb) (by rw [HP5.out]; exact he)
            rw [HP5.out] at this
            exact this
          subst hz
          clear he
          go_wp2_with fail
          refine (r8same_v y5 Ma.zero Md.zero Md.zero true _ SR1.out.2.2.1 (Hq.zero _) (qS_self _)).mono ?_
          rintro r1 wr2 ⟨rfl, hb8⟩
          have SR2 := Lib.hid (SR1.out.call hb8)
          clear hb8 SR1 o0 o1 o2 o3 o4
          go_wp2_with fail
          go_ret
          exact ⟨rfl, SR2.out.1⟩
end Go.Proofs.YteimpkjpoijhmaaDoor
