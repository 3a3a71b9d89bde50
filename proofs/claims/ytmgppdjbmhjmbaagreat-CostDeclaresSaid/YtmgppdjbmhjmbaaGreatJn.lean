/-
  Layer 12: law CostOthers.
-/
import Derived.Test.YtmgppdjbmhjmbaaGreatJm
import Derived.Test.YtmgppdjbmhjmbaaGreatLm
namespace Go.Proofs.YtmgppdjbmhjmbaaGreat
open Go.RowKit
set_option maxRecDepth 100000
set_option linter.unusedSimpArgs false
set_option linter.unusedVariables false

theorem mx12_fits {d d' : Md} {i : Nat} (D : Dn12 d d' (fun _ => (1048576, 256, 1024)) i) (hi : d.s.length ≤ i) (sa : Sa10 d d') (h : (ro11 d).2 = 0) : ok12 d d.s.length = true → ok12 d' d.s.length = true := fun hf => by
  have S := D.sd sa hi
  have := ok12_of (d := d') (by rw [S.ro]; exact h) (fun k hk => by
    rw [S.len] at hk
    rw [S.ce, (D.me hk (by omega)).1]
    have := fi12_iff.1 (ok12_at h hf hk)
    exact fi12_iff.2 (by simp only [mhs12]; omega))
  rw [S.len] at this
  exact this
theorem mx12_same {d d' : Md} {i : Nat} (D : Dn12 d d' (fun _ => (1048576, 256, 1024)) i) (hi : d.s.length ≤ i) (sa : Sa10 d d') (h : (co12 d).2 = 0) : co12 d' = (cs12 d, 0) ∧ co12 d = (cs12 d, 0) := co12_same (D.sd sa hi) (mx12_fits D hi sa (co12_ok h).1) h
set_option maxHeartbeats 16000000 in
theorem others12_walk (y : Ma) (d : Md) (w : World) (hq : Hq w y d) : Calls Tryz.prog 5 #[dv y d] w fun r w' => r = .returned (.bool true) ∧ Below w.heap.size w w' := by
  have S0 := Lib.hid ((((Sx.start w).add (fQm y d) hq).mkD y d))
  obtain ⟨B, hB⟩ : ∃ B, w.heap.size = B := ⟨_, rfl⟩
  have HBB := Lib.hid hB
  rw [hB] at S0
  clear hq
  go_enter Tryz.func5, Tryz.ntmps5
  go_upto_region 1 with (fail)
  change Code.wp _ _ _ _ (w.alloc (dcel y d))
  generalize w.alloc (dcel y d) = w1 at S0 ⊢
  clear hB
  have HAW := Lib.hid (awake12_v w1)
  go_wp2_with fail
  refine HAW.out.mono ?_
  rintro r w2 ⟨rfl, hb⟩
  have S2 := Lib.hid (S0.out.call hb)
  clear HAW hb S0
  have HGR := Lib.hid (great8_v y d w2 S2.out.2.2.1)
  obtain ⟨-, ⟨d0, d1, d2, d3, d4⟩, -⟩ := S2.out
  go_wp2_with fail
  refine HGR.out.mono ?_
  rintro r w3 ⟨rfl, hb⟩
  have S3 := Lib.hid (S2.out.call hb)
  clear HGR hb S2 d0 d1 d2 d3 d4
  cases hg : qG d with
  | true =>
    go_wp2_with fail
    go_ret
    exact ⟨rfl, S3.out.1⟩
  | false =>
  have HG := Lib.hid hg
  obtain ⟨hs40, -⟩ := qG_b12 hg
  obtain ⟨sl, hsl⟩ : ∃ sl, d.s.length = sl := ⟨_, rfl⟩
  have HSL := Lib.hid hsl
  rw [hsl] at hs40
  clear hg hsl
  have HCP := Lib.hid (r8copyw y d w3 S3.out.2.2.1 HG.out)
  obtain ⟨-, ⟨d0, d1, d2, d3, d4⟩, -⟩ := S3.out
  go_wp2_with fail
  refine HCP.out.mono ?_
  rintro r w4 ⟨T, rfl, hqT, hoT, hb⟩
  obtain ⟨TG, tgc, TP, tpc, TA, tc, TZ⟩ := T
  obtain ⟨M, hM⟩ : ∃ M, w4.heap.size = M := ⟨_, rfl⟩
  have hlo : w3.heap.size ≤ M := by rw [← hM]; exact hb.size
  have HA0 : Hid (Aw w3.heap.size M M d (-1) (w4.alloc (dcel ⟨TG, tgc, TP, tpc, TA, tc, TZ⟩ d)) ⟨TG, tgc, TP, tpc, TA, tc, TZ⟩ d) := Lib.hid (by
    have h1 := hqT.keep (new1 (a := dcel ⟨TG, tgc, TP, tpc, TA, tc, TZ⟩ d))
    have h2 := hoT.keep (new1 (a := dcel ⟨TG, tgc, TP, tpc, TA, tc, TZ⟩ d))
    have h3 := Db.new w4 ⟨TG, tgc, TP, tpc, TA, tc, TZ⟩ d
    rw [hM] at h2 h3
    exact ⟨h1, h2, h3, ⟨rfl, rfl, rfl⟩, fun z z' h _ _ => (by omega), HG.out, Nat.le_refl _⟩)
  have HB0 : Hid (Below w3.heap.size w3 (w4.alloc (dcel ⟨TG, tgc, TP, tpc, TA, tc, TZ⟩ d))) := Lib.hid (hb.trans (new1.mono hb.size))
  have HLO := Lib.hid hlo
  clear hqT hoT hb HCP d0 d1 d2 d3 d4
  go_upto_region 7 with (fail)
  change Code.wp _ _ _ _ (w4.alloc (dcel ⟨TG, tgc, TP, tpc, TA, tc, TZ⟩ d))
  generalize w4.alloc (dcel ⟨TG, tgc, TP, tpc, TA, tc, TZ⟩ d) = w5 at HA0 HB0 ⊢
  clear hM hlo
  go_loopw [4] (fun iv wq => ∃ (j : Nat) (ZZ : List Me) (dd : Md), j ≤ sl ∧ iv = .int .i64 j ∧ Hid (Aw w3.heap.size M M d (-1) wq ⟨TG, tgc, TP, tpc, TA, tc, ZZ⟩ dd) ∧ Hid (Dn12 d dd (fun _ => (1048576, 256, 1024)) j) ∧ Hid (Below w3.heap.size w3 wq)) (fun iv _ => sl - (intOf iv).toNat)
  case atStart => exact ⟨0, TZ, d, by omega, rfl, HA0, Lib.hid (Dn12.zero d _), HB0⟩
  case round =>
    clear HA0 HB0
    obtain ⟨j, ZZ, dd, hj, rfl, HA, HD, HB⟩ := hrel
    rename World => wq
    have hl := HD.out.len.trans HSL.out
    obtain ⟨y0, y1, y2, y3, y4⟩ := HA.out.db
    dsimp only at y1 y2 y3
    rw [hl] at y3
    by_cases h1 : j < sl
    · obtain ⟨g, u6, ka, hAG, hg1, hg2, -, hf6, hka⟩ := HA.out.ow.2.2.1.cellB (i := j * 8 + 6) (by rw [hl]; omega)
      obtain ⟨ga, u4, kb, hA4, -, -, -, hf4, -⟩ := HA.out.ow.2.2.1.cellB (i := j * 8 + 4) (by rw [hl]; omega)
      obtain ⟨gb, u5, kc, hA5, -, -, -, hf5, -⟩ := HA.out.ow.2.2.1.cellB (i := j * 8 + 5) (by rw [hl]; omega)
      dsimp only at hAG hA4 hA5
      subst hAG
      injection hA4 with hA4
      injection hA4 with hA4
      subst hA4
      injection hA5 with hA5
      injection hA5 with hA5
      subst hA5
      obtain ⟨z, hz⟩ : ∃ z, ZZ[j]? = some z := ⟨_, List.getElem?_eq_getElem (by have h := HA.out.hq.zlen; dsimp only at h; rw [h, hl]; exact h1)⟩
      obtain ⟨hat, -⟩ := HA.out.at812 (j := j) rfl hz
      obtain ⟨-, -, -, -, c4, c5, c6, -⟩ := hat
      dsimp only at c4 c5 c6
      obtain ⟨Z3, hZ3, h3⟩ := HA.out.num12 rfl hka hg2 hz (1048576, 256, 1024) (by dsimp only; omega) (by dsimp only; omega) (by dsimp only; omega)
      obtain ⟨q1, q2⟩ := HA.out.set12 hz (1048576, 256, 1024)
      dsimp only at h3 q2
      rw [← hZ3] at q2
      have HD3 : Hid (Dn12 d { dd with s := Z3.map ze } (fun _ => (1048576, 256, 1024)) (j + 1)) := Lib.hid (HD.out.step q1 q2 rfl)
      clear hl hZ3 q1 q2
      go_upto_region 9 with (fail)
      go_region
      have HA3 : Hid (Aw w3.heap.size M M d (-1) (((wq.setCell ⟨g, j * 8 + 4, none⟩ (.int .i64 1048576)).setCell ⟨g, j * 8 + 5, none⟩ (.int .i64 256)).setCell ⟨g, j * 8 + 6, none⟩ (.int .i64 1024)).drew ⟨TG, tgc, TP, tpc, (some ⟨g, 0, none⟩), tc, Z3⟩ { dd with s := Z3.map ze }) := Lib.hid (h3.keep (below_draws (Below.refl _ _) 1))
      have HB3 : Hid (Below w3.heap.size w3 (((wq.setCell ⟨g, j * 8 + 4, none⟩ (.int .i64 1048576)).setCell ⟨g, j * 8 + 5, none⟩ (.int .i64 256)).setCell ⟨g, j * 8 + 6, none⟩ (.int .i64 1024)).drew) := Lib.hid (below_draws (((HB.out.setCell (p := ⟨g, j * 8 + 4, none⟩) hg1 _).setCell (p := ⟨g, j * 8 + 5, none⟩) hg1 _).setCell (p := ⟨g, j * 8 + 6, none⟩) hg1 _) 1)
      clear h3 c4 c5 c6 y0 y1 y2 y3 y4 hf4 hf5 hf6 hka HA HB hz HD
      generalize (((wq.setCell ⟨g, j * 8 + 4, none⟩ (.int .i64 1048576)).setCell ⟨g, j * 8 + 5, none⟩ (.int .i64 256)).setCell ⟨g, j * 8 + 6, none⟩ (.int .i64 1024)).drew = wA at HA3 HB3 ⊢
      go_wp2_with fail
      go_roundw
      case rel => exact ⟨j + 1, Z3, { dd with s := Z3.map ze }, by omega, by go_num, HA3, HD3, HB3⟩
      case measure => simp [intOf]; omega
    · obtain rfl : sl = j := by omega
      go_upto_region 10 with (fail)
      clear y0 y1 y2 y3 y4 hl
      have S4 := Lib.hid ((S3.out.call HB.out))
      have HS := Lib.hid (HD.out.sd HA.out.sa (by rw [HSL.out]; exact Nat.le_refl _))
      obtain ⟨-, ⟨d0, d1, d2, d3, d4⟩, -⟩ := S4.out
      have HC1 := Lib.hid (costs12_v y d wq S4.out.2.2.1 HG.out)
      go_wp2_with fail
      refine HC1.out.mono ?_
      rintro r w6 ⟨A1, c1, rfl, ho1, hb⟩
      have HA6 := Lib.hid (HA.out.keep hb)
      have S6 := Lib.hid ((S4.out.call hb).add (fRg ce3 3 A1 c1 (co12 d).1) (Rg.of_own ce3_len (by omega) ho1).1)
      clear HC1 ho1 hb S4 d0 d1 d2 d3 d4 HA HB
      have HQG := Lib.hid HA6.out.qg
      have HC2 := Lib.hid (costs12_v ⟨TG, tgc, TP, tpc, TA, tc, ZZ⟩ dd w6 HA6.out.hq HQG.out)
      obtain ⟨y0, y1, y2, y3, y4⟩ := HA6.out.db
      dsimp only at y1 y2 y3
      go_wp2_with fail
      refine HC2.out.mono ?_
      rintro r w7 ⟨A2, c2, rfl, ho2, hb⟩
      have S7 := Lib.hid ((S6.out.call hb).add (fRg ce3 3 A2 c2 (co12 dd).1) (Rg.of_own ce3_len (by omega) ho2).1)
      have HSA := Lib.hid HA6.out.sa
      clear HC2 ho2 hb S6 y0 y1 y2 y3 y4 HA6
      by_cases he : (co12 d).2 = 0
      · obtain ⟨q1, q2⟩ := mx12_same HD.out (by rw [HSL.out]; exact Nat.le_refl _) HSA.out he
        have hcl : (cs12 d).length = sl := by rw [cs12_len, HSL.out]
        rw [q1, q2] at S7 ⊢
        dsimp only at S7 ⊢
        rw [hcl]
        have HSM := Lib.hid (r12same_v A1 A2 c1 c2 sl (cs12 d) w7 S7.out.2.2.1 S7.out.2.1 hcl (by omega))
        clear q1 q2 hcl he
        go_wp2_with fail
        refine HSM.out.mono ?_
        rintro r w8 ⟨rfl, hb⟩
        have HBF := Lib.hid (S7.out.call hb).1
        clear HSM hb S7
        go_wp2_with fail
        go_ret
        exact ⟨rfl, HBF.out⟩
      · by_cases he2 : (co12 dd).2 = 0
        · obtain ⟨q1, q2, q3⟩ := co12_one HS.out he he2
          have HQ3 := Lib.hid q3
          have hcl : (cs12 d).length = sl := by rw [cs12_len, HSL.out]
          rw [q2] at S7 ⊢
          rw [q1]
          dsimp only at S7 ⊢
          rw [hcl]
          obtain ⟨L1, hL1⟩ : ∃ L1, (co12 d).1 = L1 := ⟨_, rfl⟩
          rw [hL1] at S7 ⊢
          have HBW := Lib.hid S7.out.1
          clear q1 q2 q3 hcl he he2 hL1
          obtain ⟨-, -, -, ⟨d0, d1, d2, d3, d4⟩, -⟩ := S7.out
          rw [HSL.out] at d3
          go_upto_region 18 with (fail)
          clear d0 d1 d2 d3 d4
          go_loopw [9, 10] (fun vv iv wq => ∃ (i : Nat), i ≤ sl ∧ iv = .int .i64 i ∧ vv = .bool ((List.range i).all fun k => fi12 (ce12 d k) (me10 d k)) ∧ Hid (Below w7.heap.size w7 wq)) (fun _ iv _ => sl - (intOf iv).toNat)
          case atStart => exact ⟨0, by omega, rfl, rfl, Lib.hid (Below.refl _ _)⟩
          case round =>
            obtain ⟨i, hi, rfl, rfl, HB⟩ := hrel
            rename World => wr
            have SQ := Lib.hid (S7.out.call HB.out)
            obtain ⟨-, -, -, ⟨d0, d1, d2, d3, d4⟩, -⟩ := SQ.out
            rw [HSL.out] at d3
            have HSC : Hid ((List.range (i + 1)).all (fun k => fi12 (ce12 d k) (me10 d k)) = ((List.range i).all (fun k => fi12 (ce12 d k) (me10 d k)) && fi12 (ce12 d i) (me10 d i))) := Lib.hid (by rw [List.range_succ, List.all_append]; simp)
            by_cases h1 : i < sl
            · obtain ⟨v, hv⟩ : ∃ v, (List.range i).all (fun k => fi12 (ce12 d k) (me10 d k)) = v := ⟨_, rfl⟩
              rw [hv] at HSC ⊢
              clear hv
              go_upto_region 20 with (fail)
              cases v with
              | false =>
                have HW2 := Lib.hid (fun q => below_draws HB.out q)
                rw [Bool.false_and] at HSC
                go_quiet (fail)
                go_wp2_with fail
                go_roundw
                case rel => exact ⟨i + 1, by omega, by go_num, by rw [HSC.out], Lib.hid (HW2.out _)⟩
                case measure => simp [intOf]; omega
              | true =>
                rw [Bool.true_and] at HSC
                obtain ⟨g, hA2, hgg, hc⟩ := SQ.out.2.1.at_ ce3_len (cs12_at (d := d) (k := i) (by rw [HSL.out]; exact h1))
                have a0 := hc 0 (by omega)
                have a1 := hc 1 (by omega)
                have a2 := hc 2 (by omega)
                simp only [ce3, List.getElem?_cons_zero, List.getElem?_cons_succ, Nat.add_zero] at a0 a1 a2
                obtain ⟨⟨vf, vs, vh⟩, hv⟩ : ∃ v, ce12 d i = v := ⟨_, rfl⟩
                rw [hv] at a0 a1 a2 HSC
                dsimp only at a0 a1 a2
                obtain ⟨ad8, e8, hat, -⟩ := SQ.out.2.2.2.2.1.2.2.1.at_ (i := i) (by rw [SQ.out.2.2.2.2.1.zlen, HSL.out]; exact h1)
                have hme := SQ.out.2.2.2.2.1.zat (i := i) (by rw [SQ.out.2.2.2.2.1.zlen, HSL.out]; exact h1) (by rw [HSL.out]; exact h1)
                obtain ⟨zm, hzm⟩ : ∃ zm, y.Z[i]'(by rw [SQ.out.2.2.2.2.1.zlen, HSL.out]; exact h1) = zm := ⟨_, rfl⟩
                rw [hzm] at hat hme
                have HME : Hid (me10 d i = zm.m) := Lib.hid (by rw [me10, List.getElem?_eq_getElem (by rw [HSL.out]; exact h1), hme]; rfl)
                rw [HME.out] at HSC
                obtain ⟨xm, hm, Lm⟩ := zm
                dsimp only at HSC
                rw [e8] at d3
                subst hA2
                have SF : Hid (Sx wr wr.drew [fC12 ⟨g, i * 3, none⟩ (.int .i64 vf), fC12 ⟨g, i * 3 + 1, none⟩ (.int .i64 vs), fC12 ⟨g, i * 3 + 2, none⟩ (.int .i64 vh), fC12 ⟨B, 2, none⟩ (.slice (some ad8) sl y.c), fA812 (ad8.add (i * 8)) ⟨xm, hm, Lm⟩]) := Hsx.drew (Lib.hid ((((((Sx.start wr).add (fA812 (ad8.add (i * 8)) ⟨xm, hm, Lm⟩) hat).add (fC12 ⟨B, 2, none⟩ (.slice (some ad8) sl y.c)) d3).add (fC12 ⟨g, i * 3 + 2, none⟩ (.int .i64 vh)) a2).add (fC12 ⟨g, i * 3 + 1, none⟩ (.int .i64 vs)) a1).add (fC12 ⟨g, i * 3, none⟩ (.int .i64 vf)) a0))
                obtain ⟨v, hv2⟩ : ∃ v, fi12 (vf, vs, vh) hm = v := ⟨_, rfl⟩
                have HFI := Lib.hid hv2
                rw [hv2] at HSC
                clear hv hv2 a0 a1 a2 d0 d1 d2 d3 d4 hat hme hzm SQ hc e8
                refine wp_region_held_drew (S := fun w' => Hid (Sx wr w' [fC12 ⟨g, i * 3, none⟩ (.int .i64 vf), fC12 ⟨g, i * 3 + 1, none⟩ (.int .i64 vs), fC12 ⟨g, i * 3 + 2, none⟩ (.int .i64 vh), fC12 ⟨B, 2, none⟩ (.slice (some ad8) sl y.c), fA812 (ad8.add (i * 8)) ⟨xm, hm, Lm⟩])) (by kernel_rfl) (SF) (fun hHeld => ?_)
                refine wpAnyH_take (i := 0) (v := ?_) rfl (by kernel_rfl) (by kernel_rfl) (by kernel_rfl) (fun _ _ _ h => h) (Or.inl ⟨by rfl, ?_⟩) (by assumption) ?_
                rotate_left 1
                · intro w _; go_simp; try with_reducible rfl
                try simp only [Act.put, List.getElem_toArray, List.getElem_cons_zero, List.getElem_cons_succ, List.setIfInBounds_toArray, List.set_cons_zero, List.set_cons_succ]
                refine wpAnyH_take (i := 1) (v := ?_) rfl (by kernel_rfl) (by kernel_rfl) (by kernel_rfl) (fun _ _ _ h => h) (Or.inl ⟨by rfl, ?_⟩) (by assumption) ?_
                rotate_left 1
                · intro w _; go_simp; try with_reducible rfl
                try simp only [Act.put, List.getElem_toArray, List.getElem_cons_zero, List.getElem_cons_succ, List.setIfInBounds_toArray, List.set_cons_zero, List.set_cons_succ]
                refine wpAnyH_take (i := 2) (v := ?_) rfl (by kernel_rfl) (by kernel_rfl) (by kernel_rfl) (fun _ _ _ h => h) (Or.inl ⟨by rfl, ?_⟩) (by assumption) ?_
                rotate_left 1
                · intro w _; go_simp; try with_reducible rfl
                try simp only [Act.put, List.getElem_toArray, List.getElem_cons_zero, List.getElem_cons_succ, List.setIfInBounds_toArray, List.set_cons_zero, List.set_cons_succ]
                refine wpAnyH_take (i := 3) (v := ?_) rfl (by kernel_rfl) (by kernel_rfl) (by kernel_rfl) (fun _ _ _ h => h) (Or.inl ⟨by rfl, ?_⟩) (by assumption) ?_
                rotate_left 1
                · intro w _; go_simp; try with_reducible rfl
                try simp only [Act.put, List.getElem_toArray, List.getElem_cons_zero, List.getElem_cons_succ, List.setIfInBounds_toArray, List.set_cons_zero, List.set_cons_succ]
                refine wpAnyH_take (i := 4) (v := ?_) rfl (by kernel_rfl) (by kernel_rfl) (by kernel_rfl) (fun _ _ _ h => h) (Or.inl ⟨by rfl, ?_⟩) (by assumption) ?_
                rotate_left 1
                · intro w _; go_simp; try with_reducible rfl
                try simp only [Act.put, List.getElem_toArray, List.getElem_cons_zero, List.getElem_cons_succ, List.setIfInBounds_toArray, List.set_cons_zero, List.set_cons_succ]
                refine wpAnyH_take (i := 5) (v := ?_) rfl (by kernel_rfl) (by kernel_rfl) (by kernel_rfl) (fun _ _ _ h => h) (Or.inl ⟨by rfl, ?_⟩) (by assumption) ?_
                rotate_left 1
                · intro w hSw; (try dsimp only at hSw); obtain ⟨-, s0, s1, s2, s3, ⟨a0, a1, a2, a3, a4, a5, a6, a7⟩, -⟩ := hSw.out; dsimp only at s0 s1 s2 s3; go_simp; try with_reducible rfl
                try simp only [Act.put, List.getElem_toArray, List.getElem_cons_zero, List.getElem_cons_succ, List.setIfInBounds_toArray, List.set_cons_zero, List.set_cons_succ]
                refine wpAnyH_take (i := 6) (v := ?_) rfl (by kernel_rfl) (by kernel_rfl) (by kernel_rfl) (fun _ _ _ h => h) (Or.inl ⟨by rfl, ?_⟩) (by assumption) ?_
                rotate_left 1
                · intro w _; go_simp; try with_reducible rfl
                try simp only [Act.put, List.getElem_toArray, List.getElem_cons_zero, List.getElem_cons_succ, List.setIfInBounds_toArray, List.set_cons_zero, List.set_cons_succ]
                refine wpAnyH_take (i := 7) (v := ?_) rfl (by kernel_rfl) (by kernel_rfl) (by kernel_rfl) (fun _ _ _ h => h) (Or.inl ⟨by rfl, ?_⟩) (by assumption) ?_
                rotate_left 1
                · intro w hSw; (try dsimp only at hSw); obtain ⟨-, s0, s1, s2, s3, ⟨a0, a1, a2, a3, a4, a5, a6, a7⟩, -⟩ := hSw.out; dsimp only at s0 s1 s2 s3; go_simp; try with_reducible rfl
                try simp only [Act.put, List.getElem_toArray, List.getElem_cons_zero, List.getElem_cons_succ, List.setIfInBounds_toArray, List.set_cons_zero, List.set_cons_succ]
                refine wpAnyH_take (i := 8) (v := ?_) rfl (by kernel_rfl) (by kernel_rfl) (by kernel_rfl) (fun _ _ _ h => h) (Or.inl ⟨by rfl, ?_⟩) (by assumption) ?_
                rotate_left 1
                · intro w _; go_simp; try with_reducible rfl
                try simp only [Act.put, List.getElem_toArray, List.getElem_cons_zero, List.getElem_cons_succ, List.setIfInBounds_toArray, List.set_cons_zero, List.set_cons_succ]
                refine wpAnyH_take (i := 9) (v := ?_) rfl (by kernel_rfl) (by kernel_rfl) (by kernel_rfl) (fun _ _ _ h => h) (Or.inl ⟨by rfl, ?_⟩) (by assumption) ?_
                rotate_left 1
                · intro w _; go_simp; try with_reducible rfl
                try simp only [Act.put, List.getElem_toArray, List.getElem_cons_zero, List.getElem_cons_succ, List.setIfInBounds_toArray, List.set_cons_zero, List.set_cons_succ]
                refine wpAnyH_take (i := 10) (v := ?_) rfl (by kernel_rfl) (by kernel_rfl) (by kernel_rfl) (fun _ _ _ h => h) (Or.inl ⟨by rfl, ?_⟩) (by assumption) ?_
                rotate_left 1
                · intro w hSw; (try dsimp only at hSw); obtain ⟨-, s0, s1, s2, s3, ⟨a0, a1, a2, a3, a4, a5, a6, a7⟩, -⟩ := hSw.out; dsimp only at s0 s1 s2 s3; go_simp; try with_reducible rfl
                try simp only [Act.put, List.getElem_toArray, List.getElem_cons_zero, List.getElem_cons_succ, List.setIfInBounds_toArray, List.set_cons_zero, List.set_cons_succ]
                refine wpAnyH_ready (rs := [11]) (by kernel_rfl) (by simp) ?_
                refine AllReadyH.cons rfl (fun K hK => ?_) AllReadyH.nil
                go_simp
                refine (fits12_v (vf, vs, vh) xm hm _).mono ?_
                rintro r1 wb ⟨rfl, hb⟩
                rw [HFI.out]
                go_wp2_with fail
                refine hK.out _ _ (Hsx.call hb hHeld) (fun hHeld => ?_)
                clear hK K
                try simp only [Act.put, List.getElem_toArray, List.getElem_cons_zero, List.getElem_cons_succ, List.setIfInBounds_toArray, List.set_cons_zero, List.set_cons_succ]
                refine wpAnyH_take (i := 12) (v := ?_) rfl (by kernel_rfl) (by kernel_rfl) (by kernel_rfl) (fun _ _ _ h => h) (Or.inl ⟨by rfl, ?_⟩) (by assumption) ?_
                rotate_left 1
                · intro w _; go_simp; try with_reducible rfl
                try simp only [Act.put, List.getElem_toArray, List.getElem_cons_zero, List.getElem_cons_succ, List.setIfInBounds_toArray, List.set_cons_zero, List.set_cons_succ]
                refine wpAnyH_take (i := 13) (v := ?_) rfl (by kernel_rfl) (by kernel_rfl) (by kernel_rfl) (fun _ _ _ h => h) (Or.inl ⟨by rfl, ?_⟩) (by assumption) ?_
                rotate_left 1
                · intro w _; go_simp; try with_reducible rfl
                try simp only [Act.put, List.getElem_toArray, List.getElem_cons_zero, List.getElem_cons_succ, List.setIfInBounds_toArray, List.set_cons_zero, List.set_cons_succ]
                refine wpAnyH_done (by kernel_rfl) ?_ _
                have HB7 := Lib.hid (HB.out.trans (hHeld.out.1.mono HB.out.size))
                clear SF hHeld HB
                go_wp2_with fail
                go_roundw
                case rel => exact ⟨i + 1, by omega, by go_num, by rw [HSC.out], HB7⟩
                case measure => simp [intOf]; omega
            · obtain rfl : sl = i := by omega
              have HQ4 : Hid ((List.range sl).all (fun k => fi12 (ce12 d k) (me10 d k)) = false) := Lib.hid (by rw [← HSL.out]; exact HQ3.out)
              have HBF := Lib.hid SQ.out.1
              rw [HQ4.out]
              go_wp2_with fail
              go_ret
              exact ⟨rfl, HBF.out⟩
        · have HEQ := Lib.hid (co12_both HS.out he he2)
          rw [HEQ.out] at he ⊢
          have HBF := Lib.hid S7.out.1
          have b1 : ((co12 dd).2 == 0) = false := by simpa using he2
          have b2 : ((co12 dd).2 != 0) = true := by simpa using he2
          generalize (co12 dd).2 = E at *
          clear S7
          go_wp2_with fail
          go_ret
          exact ⟨by simp, HBF.out⟩
end Go.Proofs.YtmgppdjbmhjmbaaGreat
