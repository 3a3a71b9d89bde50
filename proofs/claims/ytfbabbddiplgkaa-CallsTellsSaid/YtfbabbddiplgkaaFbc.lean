/-
  Layer 11: law CallsTells.
-/
import Derived.Test.YtfbabbddiplgkaaFbb
import Derived.Test.YtfbabbddiplgkaaFy
import Derived.Test.YtfbabbddiplgkaaRcp
import Derived.Test.YtfbabbddiplgkaaLm
namespace Go.Proofs.Ytfbabbddiplgkaa
open Go.RowKit
set_option maxRecDepth 100000
set_option linter.unusedSimpArgs false
set_option linter.unusedVariables false

theorem ns11_len (l : List Nat) : (ns11 l).length = l.length := by rw [ns11, List.length_map]
theorem fil_len40 (p : Nat → Bool) (n : Nat) : ((List.range n).filter p).length ≤ n := by
  have := List.length_filter_le p (List.range n)
  rwa [List.length_range] at this
theorem tl11_1 (d : Md) (k : Int) : (wh11 d k).1.length ≤ d.s.length := by
  rw [wh11]
  split
  · exact Nat.zero_le _
  · split
    · exact Nat.zero_le _
    · rw [ns11_len]; exact fil_len40 _ _
theorem tl11_2 (d : Md) : (ro11 d).1.length ≤ d.s.length := by
  by_cases h : (ro11 d).2 = 0
  · obtain ⟨o, ho⟩ := os40 h
    rw [ho.ro]
    dsimp only
    rw [ns11_len, ho.len]
    exact Nat.le_refl _
  · rw [ro11_no h]; exact Nat.zero_le _
theorem tl11_3 (d : Md) (k : Int) : (le11 d k).1.length ≤ d.s.length := by
  rw [le11]
  split
  · split
    · exact Nat.zero_le _
    · rw [ns11_len]; exact fil_len40 _ _
  · exact Nat.zero_le _
theorem tl11_4 (d : Md) : (de11 d).1.length ≤ d.s.length := by
  rw [de11]
  split
  · simp
  · exact Nat.zero_le _
theorem own_blt11 {w : World} {base e n c : Nat} {A : Option Addr} {xs : List Value} (h : w.ownsRow base e 1 (.slice A n c) n xs) : ∀ ad : Addr, A = some ad → ad.block < w.heap.size := by
  intro ad ha
  subst ha
  rcases h.2 with ⟨hv, -⟩ | ⟨g, cap, cur, hv, hg, hh, -⟩
  · cases hv
  · injection hv with e1 e2 e3
    injection e1 with e1
    subst e1
    exact (Array.getElem?_eq_some_iff.1 hh).1
theorem spared11 {w w' : World} {base e n c : Nat} {A P : Option Addr} {xs : List Value} (hf : Fr11 (Xr11 P) w w') (h : w.ownsRow base e 1 (.slice A n c) n xs) (hx : ∀ ad : Addr, P = some ad → ∀ ad2 : Addr, A = some ad2 → ad.block ≠ ad2.block) : w'.ownsRow base e 1 (.slice A n c) n xs := by
  refine hf.own h fun g hg hX => ?_
  obtain ⟨ad2, h1, h2⟩ := own_xr11 hg.symm
  obtain ⟨ad, h3, h4⟩ := hX
  exact hx ad h3 ad2 h1 (h4.symm.trans h2)
set_option maxHeartbeats 32000000 in
theorem tells11_walk (y : Ma) (d : Md) (k : Int) (w : World) (hq : Hq w y d) : Calls Try.prog 3 #[dv y d, .int .i64 k] w fun r w' => r = .returned (.bool true) ∧ Below w.heap.size w w' := by
  have S0 := Lib.hid ((((Sx.start w).add (fQm y d) hq).mkD y d))
  obtain ⟨B, hB⟩ : ∃ B, w.heap.size = B := ⟨_, rfl⟩
  have HBB := Lib.hid hB
  rw [hB] at S0
  clear hq
  go_enter Try.func3, Try.ntmps3
  go_upto_region 1 with (fail)
  change Code.wp _ _ _ _ (w.alloc (dcel y d))
  generalize w.alloc (dcel y d) = w1 at S0 ⊢
  clear hB
  have HGR := Lib.hid (great8_v y d w1 S0.out.2.2.1)
  obtain ⟨-, ⟨d0, d1, d2, d3, d4⟩, -⟩ := S0.out
  go_wp2_with fail
  refine HGR.out.mono ?_
  rintro r w2 ⟨rfl, hb⟩
  have S2 := Lib.hid (S0.out.call hb)
  clear HGR hb S0 d0 d1 d2 d3 d4
  cases hg : qG d with
  | true =>
    go_wp2_with fail
    go_ret
    exact ⟨rfl, S2.out.1⟩
  | false =>
  have HCP := Lib.hid (r8copyw y d w2 S2.out.2.2.1 hg)
  obtain ⟨hs40, hbl⟩ := qG_bs hg
  have HBL := Lib.hid hbl
  clear hg hbl
  obtain ⟨-, ⟨d0, d1, d2, d3, d4⟩, -⟩ := S2.out
  go_wp2_with fail
  refine HCP.out.mono ?_
  rintro r w3 ⟨t, rfl, hq3, -, hb⟩
  have S3 := Lib.hid (((S2.out.call hb).add (fQm t d) hq3).mkD t d)
  obtain ⟨C, hC⟩ : ∃ C, w3.heap.size = C := ⟨_, rfl⟩
  rw [hC] at S3
  clear HCP hq3 hb S2 d0 d1 d2 d3 d4
  go_upto_region 4 with (fail)
  have hw2 : w3.alloc (.cells #[.slice t.G d.g.length t.gc, .slice t.P d.p.length t.pc, .slice t.A d.s.length t.c, .int .i64 d.i] 25) = w3.alloc (dcel t d) := rfl
  rw [hw2]
  try rw [hC]
  generalize w3.alloc (dcel t d) = w4 at S3 ⊢
  have S4 := S3
  clear hw2 hC S3
  have HR1 := Lib.hid (r11whom_v y d k w4 S4.out.2.2.2.2.1 (by omega))
  obtain ⟨⟨l1, e1⟩, hT1⟩ : ∃ T, wh11 d k = T := ⟨_, rfl⟩
  have HT1 := Lib.hid hT1
  have hl1 : l1.length ≤ 40 := by have := tl11_1 d k; rw [hT1] at this; exact Nat.le_trans this hs40
  rw [hT1] at HR1
  clear hT1
  obtain ⟨-, -, -, ⟨d0, d1, d2, d3, d4⟩, -⟩ := S4.out
  go_wp2_with fail
  refine HR1.out.mono ?_
  rintro r w5 ⟨A1, c1, rfl, ho, hb⟩
  dsimp only at ho ⊢
  have S5 := Lib.hid ((S4.out.call hb).add (fRn A1 c1 l1) (Rn.of_own ho).1)
  clear HR1 ho hb S4
  clear d0 d1 d2 d3 d4
  have HR2 := Lib.hid (r11order_v y d w5 S5.out.2.2.2.2.2.1 (by omega))
  obtain ⟨⟨l2, e2⟩, hT2⟩ : ∃ T, ro11 d = T := ⟨_, rfl⟩
  have HT2 := Lib.hid hT2
  have hl2 : l2.length ≤ 40 := by have := tl11_2 d; rw [hT2] at this; exact Nat.le_trans this hs40
  rw [hT2] at HR2
  clear hT2
  obtain ⟨-, -, -, -, ⟨d0, d1, d2, d3, d4⟩, -⟩ := S5.out
  go_wp2_with fail
  refine HR2.out.mono ?_
  rintro r w6 ⟨A2, c2, rfl, ho, hb⟩
  dsimp only at ho ⊢
  have S6 := Lib.hid ((S5.out.call hb).add (fRn A2 c2 l2) (Rn.of_own ho).1)
  clear HR2 ho hb S5
  clear d0 d1 d2 d3 d4
  have HR3 := Lib.hid (r11leads_v y d k w6 S6.out.2.2.2.2.2.2.1 (by omega))
  obtain ⟨⟨l3, e3⟩, hT3⟩ : ∃ T, le11 d k = T := ⟨_, rfl⟩
  have HT3 := Lib.hid hT3
  have hl3 : l3.length ≤ 40 := by have := tl11_3 d k; rw [hT3] at this; exact Nat.le_trans this hs40
  rw [hT3] at HR3
  clear hT3
  obtain ⟨-, -, -, -, -, ⟨d0, d1, d2, d3, d4⟩, -⟩ := S6.out
  go_wp2_with fail
  refine HR3.out.mono ?_
  rintro r w7 ⟨A3, c3, rfl, ho, hb⟩
  dsimp only at ho ⊢
  have S7 := Lib.hid ((S6.out.call hb).add (fRn A3 c3 l3) (Rn.of_own ho).1)
  clear HR3 ho hb S6
  clear d0 d1 d2 d3 d4
  have HR4 := Lib.hid (r11deep_v y d w7 S7.out.2.2.2.2.2.2.2.1 (by omega))
  obtain ⟨⟨l4, e4⟩, hT4⟩ : ∃ T, de11 d = T := ⟨_, rfl⟩
  have HT4 := Lib.hid hT4
  have hl4 : l4.length ≤ 40 := by have := tl11_4 d; rw [hT4] at this; exact Nat.le_trans this hs40
  rw [hT4] at HR4
  clear hT4
  obtain ⟨-, -, -, -, -, -, ⟨d0, d1, d2, d3, d4⟩, -⟩ := S7.out
  go_wp2_with fail
  refine HR4.out.mono ?_
  rintro r w8 ⟨A4, c4, rfl, ho, hb⟩
  dsimp only at ho ⊢
  have S8 := Lib.hid ((S7.out.call hb).add (fRn A4 c4 l4) (Rn.of_own ho).1)
  clear HR4 ho hb S7
  clear d0 d1 d2 d3 d4
  obtain rfl : e2 = e4 := by
    have h := de11_two d
    rw [HT4.out, HT2.out] at h
    exact h.symm
  go_wp2_with fail
  go_loopw [14] (fun tv wr => ∃ j : Nat, j ≤ 2 ∧ tv = .int .i64 j ∧ Hid (Sx w wr [fRn A4 c4 l4, fRn A3 c3 l3, fRn A2 c2 l2, fRn A1 c1 l1, fD C t d, fQm t d, fD B y d, fQm y d])) (fun tv _ => 2 - (intOf tv).toNat)
  case atStart => exact ⟨0, by omega, rfl, S8⟩
  case round =>
    clear S8
    obtain ⟨j, hj, rfl, SK⟩ := hrel
    rename World => wr
    by_cases h1 : j < 2
    · as_aux_lemma =>
      have SQ1 := SK
      have HK1 := Lib.hid (whom11_v t d k wr SQ1.out.2.2.2.2.2.2.1 (by omega) HBL.out)
      rw [HT1.out] at HK1
      obtain ⟨-, -, -, -, -, ⟨d0, d1, d2, d3, d4⟩, -⟩ := SQ1.out
      go_wp2_with fail
      refine HK1.out.mono ?_
      rintro r x1 ⟨P1, b1, rfl, ho, hb⟩
      dsimp only at ho ⊢
      have HP11 := Lib.hid ho
      have HZ1 : Hid (∀ ad : Addr, P1 = some ad → wr.heap.size ≤ ad.block ∧ ad.block < x1.heap.size) := Lib.hid fun ad ha => ⟨own_blk11 ho ad ha, own_blt11 ho ad ha⟩
      have hz1 := hb.size
      have HBK1 : Hid (Below wr.heap.size wr x1) := Lib.hid (hb)
      have SQ2 := Lib.hid (SQ1.out.call hb)
      clear HK1 ho hb
      clear d0 d1 d2 d3 d4
      have HK2 := Lib.hid (order11_v t d x1 SQ2.out.2.2.2.2.2.2.1 (by omega) HBL.out)
      rw [HT2.out] at HK2
      obtain ⟨-, -, -, -, -, ⟨d0, d1, d2, d3, d4⟩, -⟩ := SQ2.out
      go_wp2_with fail
      refine HK2.out.mono ?_
      rintro r x2 ⟨P2, b2, rfl, ho, hb⟩
      dsimp only at ho ⊢
      have HP22 := Lib.hid ho
      have HZ2 : Hid (∀ ad : Addr, P2 = some ad → x1.heap.size ≤ ad.block ∧ ad.block < x2.heap.size) := Lib.hid fun ad ha => ⟨own_blk11 ho ad ha, own_blt11 ho ad ha⟩
      have hz2 := hb.size
      have HBK2 : Hid (Below wr.heap.size wr x2) := Lib.hid (HBK1.out.trans (hb.mono (by omega)))
      have HP12 := Lib.hid (own_below HP11.out hb (Nat.le_refl _))
      have SQ3 := Lib.hid (SQ2.out.call hb)
      clear HK2 ho hb
      clear d0 d1 d2 d3 d4
      have HK3 := Lib.hid (leadsT_v t d k x2 SQ3.out.2.2.2.2.2.2.1 (by omega) HBL.out)
      rw [HT3.out] at HK3
      obtain ⟨-, -, -, -, -, ⟨d0, d1, d2, d3, d4⟩, -⟩ := SQ3.out
      go_wp2_with fail
      refine HK3.out.mono ?_
      rintro r x3 ⟨P3, b3, rfl, ho, hb⟩
      dsimp only at ho ⊢
      have HP33 := Lib.hid ho
      have HZ3 : Hid (∀ ad : Addr, P3 = some ad → x2.heap.size ≤ ad.block ∧ ad.block < x3.heap.size) := Lib.hid fun ad ha => ⟨own_blk11 ho ad ha, own_blt11 ho ad ha⟩
      have hz3 := hb.size
      have HBK3 : Hid (Below wr.heap.size wr x3) := Lib.hid (HBK2.out.trans (hb.mono (by omega)))
      have HP13 := Lib.hid (own_below HP12.out hb (Nat.le_refl _))
      have HP23 := Lib.hid (own_below HP22.out hb (Nat.le_refl _))
      have SQ4 := Lib.hid (SQ3.out.call hb)
      clear HK3 ho hb
      clear d0 d1 d2 d3 d4
      have HK4 := Lib.hid (deep11_v t d x3 SQ4.out.2.2.2.2.2.2.1 (by omega) HBL.out)
      rw [HT4.out] at HK4
      obtain ⟨-, -, -, -, -, ⟨d0, d1, d2, d3, d4⟩, -⟩ := SQ4.out
      go_wp2_with fail
      refine HK4.out.mono ?_
      rintro r x4 ⟨P4, b4, rfl, ho, hb⟩
      dsimp only at ho ⊢
      have HP44 := Lib.hid ho
      have HZ4 : Hid (∀ ad : Addr, P4 = some ad → x3.heap.size ≤ ad.block ∧ ad.block < x4.heap.size) := Lib.hid fun ad ha => ⟨own_blk11 ho ad ha, own_blt11 ho ad ha⟩
      have hz4 := hb.size
      have HBK4 : Hid (Below wr.heap.size wr x4) := Lib.hid (HBK3.out.trans (hb.mono (by omega)))
      have HP14 := Lib.hid (own_below HP13.out hb (Nat.le_refl _))
      have HP24 := Lib.hid (own_below HP23.out hb (Nat.le_refl _))
      have HP34 := Lib.hid (own_below HP33.out hb (Nat.le_refl _))
      have SQ5 := Lib.hid (SQ4.out.call hb)
      clear HK4 ho hb
      clear d0 d1 d2 d3 d4
      have HCK := Lib.hid (check11_v t d x4 SQ5.out.2.2.2.2.2.2.1 (by omega) HBL.out)
      rw [HT2.out] at HCK
      obtain ⟨-, -, -, -, -, ⟨d0, d1, d2, d3, d4⟩, -⟩ := SQ5.out
      go_wp2_with fail
      refine HCK.out.mono ?_
      rintro r x5 ⟨rfl, hb⟩
      have HP15 := Lib.hid (own_below HP14.out hb (Nat.le_refl _))
      have HP25 := Lib.hid (own_below HP24.out hb (Nat.le_refl _))
      have HP35 := Lib.hid (own_below HP34.out hb (Nat.le_refl _))
      have HP45 := Lib.hid (own_below HP44.out hb (Nat.le_refl _))
      have SQ6 := Lib.hid (SQ5.out.call hb)
      have hz5 := hb.size
      have HBK5 : Hid (Below wr.heap.size wr x5) := Lib.hid (HBK4.out.trans (hb.mono (by omega)))
      clear HCK hb
      clear d0 d1 d2 d3 d4
      have h := (sameints9_v P1 A1 b1 l1.length c1 l1.length l1 l1 x5 (Rn.of_own HP15.out).1 rfl SQ6.out.2.2.2.2.1 rfl)
      rw [show decide (l1 = l1) = true from by simp] at h
      have HS1 := Lib.hid h
      clear h
      go_wp2_with fail
      refine HS1.out.mono ?_
      rintro r x6 ⟨rfl, hb⟩
      have HP16 := Lib.hid (own_below HP15.out hb (Nat.le_refl _))
      have HP26 := Lib.hid (own_below HP25.out hb (Nat.le_refl _))
      have HP36 := Lib.hid (own_below HP35.out hb (Nat.le_refl _))
      have HP46 := Lib.hid (own_below HP45.out hb (Nat.le_refl _))
      have SQ7 := Lib.hid (SQ6.out.call hb)
      have hz6 := hb.size
      have HBK6 : Hid (Below wr.heap.size wr x6) := Lib.hid (HBK5.out.trans (hb.mono (by omega)))
      clear HS1 hb
      have h := (sameints9_v P2 A2 b2 l2.length c2 l2.length l2 l2 x6 (Rn.of_own HP26.out).1 rfl SQ7.out.2.2.2.1 rfl)
      rw [show decide (l2 = l2) = true from by simp] at h
      have HS2 := Lib.hid h
      clear h
      go_wp2_with fail
      refine HS2.out.mono ?_
      rintro r x7 ⟨rfl, hb⟩
      have HP17 := Lib.hid (own_below HP16.out hb (Nat.le_refl _))
      have HP27 := Lib.hid (own_below HP26.out hb (Nat.le_refl _))
      have HP37 := Lib.hid (own_below HP36.out hb (Nat.le_refl _))
      have HP47 := Lib.hid (own_below HP46.out hb (Nat.le_refl _))
      have SQ8 := Lib.hid (SQ7.out.call hb)
      have hz7 := hb.size
      have HBK7 : Hid (Below wr.heap.size wr x7) := Lib.hid (HBK6.out.trans (hb.mono (by omega)))
      clear HS2 hb
      have h := (sameints9_v P3 A3 b3 l3.length c3 l3.length l3 l3 x7 (Rn.of_own HP37.out).1 rfl SQ8.out.2.2.1 rfl)
      rw [show decide (l3 = l3) = true from by simp] at h
      have HS3 := Lib.hid h
      clear h
      go_wp2_with fail
      refine HS3.out.mono ?_
      rintro r x8 ⟨rfl, hb⟩
      have HP18 := Lib.hid (own_below HP17.out hb (Nat.le_refl _))
      have HP28 := Lib.hid (own_below HP27.out hb (Nat.le_refl _))
      have HP38 := Lib.hid (own_below HP37.out hb (Nat.le_refl _))
      have HP48 := Lib.hid (own_below HP47.out hb (Nat.le_refl _))
      have SQ9 := Lib.hid (SQ8.out.call hb)
      have hz8 := hb.size
      have HBK8 : Hid (Below wr.heap.size wr x8) := Lib.hid (HBK7.out.trans (hb.mono (by omega)))
      clear HS3 hb
      have h := (sameints9_v P4 A4 b4 l4.length c4 l4.length l4 l4 x8 (Rn.of_own HP48.out).1 rfl SQ9.out.2.1 rfl)
      rw [show decide (l4 = l4) = true from by simp] at h
      have HS4 := Lib.hid h
      clear h
      go_wp2_with fail
      refine HS4.out.mono ?_
      rintro r x9 ⟨rfl, hb⟩
      have HP19 := Lib.hid (own_below HP18.out hb (Nat.le_refl _))
      have HP29 := Lib.hid (own_below HP28.out hb (Nat.le_refl _))
      have HP39 := Lib.hid (own_below HP38.out hb (Nat.le_refl _))
      have HP49 := Lib.hid (own_below HP48.out hb (Nat.le_refl _))
      have SQ10 := Lib.hid (SQ9.out.call hb)
      have hz9 := hb.size
      have HBK9 : Hid (Below wr.heap.size wr x9) := Lib.hid (HBK8.out.trans (hb.mono (by omega)))
      clear HS4 hb
      have HSM := Lib.hid (r8same_v t y d d true x9 SQ10.out.2.2.2.2.2.2.1 SQ10.out.2.2.2.2.2.2.2.2.1 (qS_self d))
      obtain ⟨-, -, -, -, -, ⟨d0, d1, d2, d3, d4⟩, -, ⟨m0, m1, m2, m3, m4⟩, -⟩ := SQ10.out
      go_wp2_with fail
      refine HSM.out.mono ?_
      rintro r x10 ⟨rfl, hb⟩
      have HP110 := Lib.hid (own_below HP19.out hb (Nat.le_refl _))
      have HP210 := Lib.hid (own_below HP29.out hb (Nat.le_refl _))
      have HP310 := Lib.hid (own_below HP39.out hb (Nat.le_refl _))
      have HP410 := Lib.hid (own_below HP49.out hb (Nat.le_refl _))
      have SQ11 := Lib.hid (SQ10.out.call hb)
      have hz10 := hb.size
      have HBK10 : Hid (Below wr.heap.size wr x10) := Lib.hid (HBK9.out.trans (hb.mono (by omega)))
      clear HSM hb m0 m1 m2 m3 m4
      clear d0 d1 d2 d3 d4
      have HSP1 := Lib.hid (spoil11_v P1 b1 l1.length _ l1 x10 HP110.out (by omega))
      go_wp2_with fail
      refine HSP1.out.mono ?_
      rintro r x11 ⟨rfl, hf⟩
      have HP211 := Lib.hid (spared11 hf HP210.out fun ad ha ad2 ha2 => by have h1 := HZ1.out ad ha; have h2 := HZ2.out ad2 ha2; omega)
      have HP311 := Lib.hid (spared11 hf HP310.out fun ad ha ad2 ha2 => by have h1 := HZ1.out ad ha; have h2 := HZ3.out ad2 ha2; omega)
      have HP411 := Lib.hid (spared11 hf HP410.out fun ad ha ad2 ha2 => by have h1 := HZ1.out ad ha; have h2 := HZ4.out ad2 ha2; omega)
      have HBK11 : Hid (Below wr.heap.size wr x11) := Lib.hid (HBK10.out.trans (hf.below fun j hj => ⟨by omega, fun ⟨ad, ha, he⟩ => by have h1 := HZ1.out ad ha; omega⟩))
      have hz11 := hf.size
      clear HSP1 hf
      have HSP2 := Lib.hid (spoil11_v P2 b2 l2.length _ l2 x11 HP211.out (by omega))
      go_wp2_with fail
      refine HSP2.out.mono ?_
      rintro r x12 ⟨rfl, hf⟩
      have HP312 := Lib.hid (spared11 hf HP311.out fun ad ha ad2 ha2 => by have h1 := HZ2.out ad ha; have h2 := HZ3.out ad2 ha2; omega)
      have HP412 := Lib.hid (spared11 hf HP411.out fun ad ha ad2 ha2 => by have h1 := HZ2.out ad ha; have h2 := HZ4.out ad2 ha2; omega)
      have HBK12 : Hid (Below wr.heap.size wr x12) := Lib.hid (HBK11.out.trans (hf.below fun j hj => ⟨by omega, fun ⟨ad, ha, he⟩ => by have h1 := HZ2.out ad ha; omega⟩))
      have hz12 := hf.size
      clear HSP2 hf
      have HSP3 := Lib.hid (spoil11_v P3 b3 l3.length _ l3 x12 HP312.out (by omega))
      go_wp2_with fail
      refine HSP3.out.mono ?_
      rintro r x13 ⟨rfl, hf⟩
      have HP413 := Lib.hid (spared11 hf HP412.out fun ad ha ad2 ha2 => by have h1 := HZ3.out ad ha; have h2 := HZ4.out ad2 ha2; omega)
      have HBK13 : Hid (Below wr.heap.size wr x13) := Lib.hid (HBK12.out.trans (hf.below fun j hj => ⟨by omega, fun ⟨ad, ha, he⟩ => by have h1 := HZ3.out ad ha; omega⟩))
      have hz13 := hf.size
      clear HSP3 hf
      have HSP4 := Lib.hid (spoil11_v P4 b4 l4.length _ l4 x13 HP413.out (by omega))
      go_wp2_with fail
      refine HSP4.out.mono ?_
      rintro r x14 ⟨rfl, hf⟩
      have HBK14 : Hid (Below wr.heap.size wr x14) := Lib.hid (HBK13.out.trans (hf.below fun j hj => ⟨by omega, fun ⟨ad, ha, he⟩ => by have h1 := HZ4.out ad ha; omega⟩))
      have hz14 := hf.size
      clear HSP4 hf
      have SN : Hid (Sx w x14 [fRn A4 c4 l4, fRn A3 c3 l3, fRn A2 c2 l2, fRn A1 c1 l1, fD C t d, fQm t d, fD B y d, fQm y d]) := Lib.hid (SK.out.call HBK14.out)
      go_wp2_with fail
      go_roundw
      case rel => exact ⟨j + 1, by omega, by go_num, SN⟩
      case measure => simp [intOf]; omega
    · obtain rfl : j = 2 := by omega
      have HBF := Lib.hid SK.out.1
      clear SK
      go_wp2_with fail
      go_ret
      exact ⟨rfl, HBF.out⟩
end Go.Proofs.Ytfbabbddiplgkaa
