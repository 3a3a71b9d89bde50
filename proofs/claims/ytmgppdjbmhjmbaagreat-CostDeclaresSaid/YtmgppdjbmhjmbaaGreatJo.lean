/-
  Layer 12: law CostDeclares.
-/
import Derived.Test.YtmgppdjbmhjmbaaGreatJn
namespace Go.Proofs.YtmgppdjbmhjmbaaGreat
open Go.RowKit
set_option maxRecDepth 100000
set_option linter.unusedSimpArgs false
set_option linter.unusedVariables false

theorem Aw.turn12 {lo hi M g k kk i : Nat} {d d' : Md} {N : Nat → Ce} {wr : World} {y' : Ma} {z : Me} (h : Aw lo hi M d (-1) wr y' d') (D : Dn12 d d' N i) (hn : d.s.length ≤ i) (hA : y'.A = some ⟨g, 0, none⟩) (hg : Bk wr g 39 kk) (h2 : g < hi) (hz : y'.Z[k]? = some z)
    {f : Nat} {v : Int} (hv : -9223372036854775808 ≤ v ∧ v ≤ 9223372036854775807) {c' : Ce} (hf : (f = 4 ∧ c' = (v, (N k).2)) ∨ (f = 5 ∧ c' = ((N k).1, v, (N k).2.2)) ∨ (f = 6 ∧ c' = ((N k).1, (N k).2.1, v))) :
    ∃ Z' dd', Aw lo hi M d (-1) (wr.setCell ⟨g, k * 8 + f, none⟩ (.int .i64 v)) { y' with Z := Z' } dd' ∧ Dn12 d dd' (pu12 N k c') i := by
  have hk := (List.getElem?_eq_some_iff.1 hz).1
  obtain ⟨q1, q2⟩ := h.set12 hz c'
  have hks : k < d.s.length := by rw [← D.len, ← h.hq.zlen]; exact hk
  have h3 := D.at_ k _ (List.getElem?_eq_getElem hks)
  rw [if_pos (by omega), q1] at h3
  injection h3 with h3
  have hzm : z.m = mhs12 (d.s[k]).1 (N k) := congrArg Prod.fst h3
  have key : ∀ m', m' = mhs12 z.m c' → (y'.Z.set k { z with m := m' }).map ze = d'.s.set k (mhs12 z.m c', z.k) := fun m' e => by rw [e]; exact q2
  rcases hf with ⟨rfl, rfl⟩ | ⟨rfl, rfl⟩ | ⟨rfl, rfl⟩
  · refine ⟨_, _, h.fld12 hA hg h2 hz hv (.inl ⟨rfl, rfl⟩), D.turn hn q1 (key _ ?_) rfl⟩
    rw [hzm]; rfl
  · refine ⟨_, _, h.fld12 hA hg h2 hz hv (.inr (.inl ⟨rfl, rfl⟩)), D.turn hn q1 (key _ ?_) rfl⟩
    rw [hzm]; rfl
  · refine ⟨_, _, h.fld12 hA hg h2 hz hv (.inr (.inr ⟨rfl, rfl⟩)), D.turn hn q1 (key _ ?_) rfl⟩
    rw [hzm]; rfl
theorem dn12_fits {d d' : Md} {i : Nat} (D : Dn12 d d' (ce12 d) i) (hi : d.s.length ≤ i) (sa : Sa10 d d') (h : (co12 d).2 = 0) : co12 d' = (cs12 d, 0) := by
  obtain ⟨a1, a2, a3, a4⟩ := co12_ok h
  refine co12_fits (D.sd sa hi) h fun k hk => ?_
  rw [(D.me hk (by omega)).1]
  have := fi12_iff.1 (ok12_at a1 a3 hk)
  exact fi12_iff.2 (by simp only [mhs12]; omega)
theorem dn12_less {d d' : Md} {i k : Nat} {c' : Ce} (D : Dn12 d d' (pu12 (ce12 d) k c') i) (hi : d.s.length ≤ i) (sa : Sa10 d d') (h : (co12 d).2 = 0) (hk : k < d.s.length) (hc : c'.1 < (ce12 d k).1 ∨ c'.2.1 < (ce12 d k).2.1 ∨ c'.2.2 < (ce12 d k).2.2) : (co12 d').2 = 120 := by
  refine co12_less (D.sd sa hi) h hk ?_
  rw [(D.me hk (by omega)).1, ← Bool.not_eq_true, fi12_iff]
  simp only [mhs12, pu12, if_pos rfl]
  simp
  omega
theorem dn12_more {d d' : Md} {i k : Nat} {v : Int} (D : Dn12 d d' (pu12 (ce12 d) k (v, (ce12 d k).2)) i) (hi : d.s.length ≤ i) (sa : Sa10 d d') (h : (co12 d).2 = 0) (hv : 1048576 ≤ v) : (co12 d').2 = 0 := by
  obtain ⟨a1, a2, a3, a4⟩ := co12_ok h
  rw [co12_fits (D.sd sa hi) h fun j hj => ?_]
  rw [(D.me hj (by omega)).1]
  have := fi12_iff.1 (ok12_at a1 a3 hj)
  refine fi12_iff.2 ?_
  simp only [mhs12, pu12]
  by_cases hjk : j = k
  · subst hjk
    simp only [if_pos rfl]
    simp
    omega
  · rw [if_neg hjk]
    omega
set_option maxHeartbeats 16000000 in
theorem declares12_walk (y : Ma) (d : Md) (k0 which less : Int) (w : World) (hq : Hq w y d) : Calls Tryz.prog 4 #[dv y d, .int .i64 k0, .int .i64 which, .int .i64 less] w fun r w' => r = .returned (.bool true) ∧ Below w.heap.size w w' := by
  have S0 := Lib.hid ((((Sx.start w).add (fQm y d) hq).mkD y d))
  obtain ⟨B, hB⟩ : ∃ B, w.heap.size = B := ⟨_, rfl⟩
  have HBB := Lib.hid hB
  rw [hB] at S0
  clear hq
  go_enter Tryz.func4, Tryz.ntmps4
  go_upto_region 1 with (fail)
  change Code.wp _ _ _ _ (w.alloc (dcel y d))
  generalize w.alloc (dcel y d) = w1 at S0 ⊢
  clear hB
  have HAW := Lib.hid (awake12_v w1)
  go_wp2_with fail
  refine HAW.out.mono ?_
  rintro r w2 ⟨rfl, hb⟩
  have S2 := Lib.hid (S0.out.call hb)
  clear HAW hb S0
  have HGR := Lib.hid (great8_v y d w2 S2.out.2.2.1)
  obtain ⟨-, ⟨d0, d1, d2, d3, d4⟩, -⟩ := S2.out
  go_wp2_with fail
  refine HGR.out.mono ?_
  rintro r w3 ⟨rfl, hb⟩
  have S3 := Lib.hid (S2.out.call hb)
  clear HGR hb S2 d0 d1 d2 d3 d4
  cases hg : qG d with
  | true =>
    go_wp2_with fail
    go_ret
    exact ⟨rfl, S3.out.1⟩
  | false =>
  have HG := Lib.hid hg
  obtain ⟨hs40, -⟩ := qG_b12 hg
  obtain ⟨sl, hsl⟩ : ∃ sl, d.s.length = sl := ⟨_, rfl⟩
  have HSL := Lib.hid hsl
  rw [hsl] at hs40
  clear hg hsl
  have HC1 := Lib.hid (costs12_v y d w3 S3.out.2.2.1 HG.out)
  obtain ⟨-, ⟨d0, d1, d2, d3, d4⟩, -⟩ := S3.out
  go_wp2_with fail
  refine HC1.out.mono ?_
  rintro r w4 ⟨A1, c1, rfl, ho1, hb⟩
  have S4 := Lib.hid ((S3.out.call hb).add (fRg ce3 3 A1 c1 (co12 d).1) (Rg.of_own ce3_len (by omega) ho1).1)
  clear HC1 ho1 hb S3 d0 d1 d2 d3 d4
  have HK1 := Lib.hid (check12_v y d w4 S4.out.2.2.2.1 HG.out)
  obtain ⟨-, -, ⟨d0, d1, d2, d3, d4⟩, -⟩ := S4.out
  by_cases he : (co12 d).2 = 0
  case neg =>
    have HL0 := Lib.hid (co12_no he)
    have b1 : ((co12 d).2 != 0) = true := by simpa using he
    obtain ⟨E, hE⟩ : ∃ E, (co12 d).2 = E := ⟨_, rfl⟩
    have HEE := Lib.hid hE
    rw [hE] at HK1 b1 he ⊢
    rw [HL0.out] at S4 ⊢
    clear hE
    dsimp only [List.length_nil]
    have b2 : (E != E) = false := by simp
    go_wp2_with fail
    refine HK1.out.mono ?_
    rintro r w5 ⟨rfl, hb⟩
    have S5 := Lib.hid (S4.out.call hb)
    clear HK1 hb S4 d0 d1 d2 d3 d4
    have HK1 := Lib.hid (check12_v y d w5 S5.out.2.2.2.1 HG.out)
    rw [HEE.out] at HK1
    obtain ⟨-, -, ⟨d0, d1, d2, d3, d4⟩, -⟩ := S5.out
    go_wp2_with fail
    refine HK1.out.mono ?_
    rintro r w6 ⟨rfl, hb⟩
    have HBF := Lib.hid (S5.out.call hb).1
    have b3 : (E == E) = true := by simp
    clear HK1 hb S5 d0 d1 d2 d3 d4
    go_wp2_with fail
    go_ret
    exact ⟨by simp, HBF.out⟩
  case pos =>
  have HE := Lib.hid he
  obtain ⟨a1, a2, a3, a4⟩ := co12_ok he
  have HFI9 : Hid (∀ k, k < sl → fi12 (ce12 d k) (me10 d k) = true) := Lib.hid (fun k hk => ok12_at a1 a3 (by rw [HSL.out]; exact hk))
  have hcl : (cs12 d).length = sl := by rw [cs12_len, HSL.out]
  have HCL := Lib.hid hcl
  rw [a4] at S4 ⊢
  rw [he] at HK1 ⊢
  rw [hcl]
  clear he a1 a2 a3 a4 hcl
  go_wp2_with fail
  refine HK1.out.mono ?_
  rintro r wp ⟨rfl, hb⟩
  have S5 := Lib.hid (S4.out.call hb)
  clear HK1 hb S4 d0 d1 d2 d3 d4
  obtain ⟨-, -, ⟨d0, d1, d2, d3, d4⟩, -⟩ := S5.out
  rw [HSL.out] at d3
  go_upto_region 10 with (fail)
  clear d0 d1 d2 d3 d4
  have HCP := Lib.hid (r8copyw y d wp S5.out.2.2.2.1 HG.out)
  obtain ⟨-, -, ⟨d0, d1, d2, d3, d4⟩, -⟩ := S5.out
  go_wp2_with fail
  refine HCP.out.mono ?_
  rintro r w4 ⟨T, rfl, hqT, hoT, hb⟩
  obtain ⟨TG, tgc, TP, tpc, TA, tc, TZ⟩ := T
  obtain ⟨M, hM⟩ : ∃ M, w4.heap.size = M := ⟨_, rfl⟩
  have hlo : wp.heap.size ≤ M := by rw [← hM]; exact hb.size
  have HA0 : Hid (Aw wp.heap.size M M d (-1) (w4.alloc (dcel ⟨TG, tgc, TP, tpc, TA, tc, TZ⟩ d)) ⟨TG, tgc, TP, tpc, TA, tc, TZ⟩ d) := Lib.hid (by
    have h1 := hqT.keep (new1 (a := dcel ⟨TG, tgc, TP, tpc, TA, tc, TZ⟩ d))
    have h2 := hoT.keep (new1 (a := dcel ⟨TG, tgc, TP, tpc, TA, tc, TZ⟩ d))
    have h3 := Db.new w4 ⟨TG, tgc, TP, tpc, TA, tc, TZ⟩ d
    rw [hM] at h2 h3
    exact ⟨h1, h2, h3, ⟨rfl, rfl, rfl⟩, fun z z' h _ _ => (by omega), HG.out, Nat.le_refl _⟩)
  have HB0 : Hid (Below wp.heap.size wp (w4.alloc (dcel ⟨TG, tgc, TP, tpc, TA, tc, TZ⟩ d))) := Lib.hid (hb.trans (new1.mono hb.size))
  have HLO := Lib.hid hlo
  clear hqT hoT hb HCP d0 d1 d2 d3 d4
  go_upto_region 12 with (fail)
  change Code.wp _ _ _ _ (w4.alloc (dcel ⟨TG, tgc, TP, tpc, TA, tc, TZ⟩ d))
  generalize w4.alloc (dcel ⟨TG, tgc, TP, tpc, TA, tc, TZ⟩ d) = w5 at HA0 HB0 ⊢
  clear hM hlo
  go_loopw [12] (fun iv wq => ∃ (j : Nat) (ZZ : List Me) (dd : Md), j ≤ sl ∧ iv = .int .i64 j ∧ Hid (Aw wp.heap.size M M d (-1) wq ⟨TG, tgc, TP, tpc, TA, tc, ZZ⟩ dd) ∧ Hid (Dn12 d dd (ce12 d) j) ∧ Hid (Below wp.heap.size wp wq)) (fun iv _ => sl - (intOf iv).toNat)
  case atStart => exact ⟨0, TZ, d, by omega, rfl, HA0, Lib.hid (Dn12.zero d _), HB0⟩
  case round =>
    clear HA0 HB0
    obtain ⟨i, ZZ, dd, hi, rfl, HA, HD, HB⟩ := hrel
    rename World => wr
    have SQ := Lib.hid (S5.out.call HB.out)
    by_cases h1 : i < sl
    · obtain ⟨gl, hA2, hgg, hc⟩ := SQ.out.2.1.at_ ce3_len (cs12_at (d := d) (k := i) (by rw [HSL.out]; exact h1))
      have a0 := hc 0 (by omega)
      have a1 := hc 1 (by omega)
      have a2 := hc 2 (by omega)
      simp only [ce3, List.getElem?_cons_zero, List.getElem?_cons_succ, Nat.add_zero] at a0 a1 a2
      have hfi := HFI9.out i h1
      have hfb := fi12_iff.1 hfi
      obtain ⟨⟨vf, vs, vh⟩, hv⟩ : ∃ v, ce12 d i = v := ⟨_, rfl⟩
      have HCE := Lib.hid hv
      rw [hv] at a0 a1 a2 hfi hfb
      dsimp only at a0 a1 a2 hfb
      obtain ⟨-, -, ⟨d0, d1, d2, d3, d4⟩, -⟩ := SQ.out
      rw [HSL.out] at d3
      obtain ⟨ad8, e8, hat, -⟩ := SQ.out.2.2.2.1.2.2.1.at_ (i := i) (by rw [SQ.out.2.2.2.1.zlen, HSL.out]; exact h1)
      have hme := SQ.out.2.2.2.1.zat (i := i) (by rw [SQ.out.2.2.2.1.zlen, HSL.out]; exact h1) (by rw [HSL.out]; exact h1)
      obtain ⟨zm, hzm⟩ : ∃ zm, y.Z[i]'(by rw [SQ.out.2.2.2.1.zlen, HSL.out]; exact h1) = zm := ⟨_, rfl⟩
      rw [hzm] at hat hme
      have HME : Hid (me10 d i = zm.m) := Lib.hid (by rw [me10, List.getElem?_eq_getElem (by rw [HSL.out]; exact h1), hme]; rfl)
      rw [HME.out] at hfi
      obtain ⟨xm, hm, Lm⟩ := zm
      dsimp only at hfi
      have HFI := Lib.hid hfi
      rw [e8] at d3
      subst hA2
      have SF : Hid (Sx wr wr.drew [fC12 ⟨gl, i * 3, none⟩ (.int .i64 vf), fC12 ⟨gl, i * 3 + 1, none⟩ (.int .i64 vs), fC12 ⟨gl, i * 3 + 2, none⟩ (.int .i64 vh), fC12 ⟨B, 2, none⟩ (.slice (some ad8) sl y.c), fA812 (ad8.add (i * 8)) ⟨xm, hm, Lm⟩]) := Hsx.drew (Lib.hid ((((((Sx.start wr).add (fA812 (ad8.add (i * 8)) ⟨xm, hm, Lm⟩) hat).add (fC12 ⟨B, 2, none⟩ (.slice (some ad8) sl y.c)) d3).add (fC12 ⟨gl, i * 3 + 2, none⟩ (.int .i64 vh)) a2).add (fC12 ⟨gl, i * 3 + 1, none⟩ (.int .i64 vs)) a1).add (fC12 ⟨gl, i * 3, none⟩ (.int .i64 vf)) a0))
      clear hv a0 a1 a2 d0 d1 d2 d3 d4 hat hme hzm SQ hc e8 hfi
      go_upto_region 14 with (fail)
      refine wp_region_held_drew (S := fun w' => Hid (Sx wr w' [fC12 ⟨gl, i * 3, none⟩ (.int .i64 vf), fC12 ⟨gl, i * 3 + 1, none⟩ (.int .i64 vs), fC12 ⟨gl, i * 3 + 2, none⟩ (.int .i64 vh), fC12 ⟨B, 2, none⟩ (.slice (some ad8) sl y.c), fA812 (ad8.add (i * 8)) ⟨xm, hm, Lm⟩])) (by kernel_rfl) (SF) (fun hHeld => ?_)
      refine wpAnyH_take (i := 0) (v := ?_) rfl (by kernel_rfl) (by kernel_rfl) (by kernel_rfl) (fun _ _ _ h => h) (Or.inl ⟨by rfl, ?_⟩) (by assumption) ?_
      rotate_left 1
      · intro w _; go_simp; try with_reducible rfl
      try simp only [Act.put, List.getElem_toArray, List.getElem_cons_zero, List.getElem_cons_succ, List.setIfInBounds_toArray, List.set_cons_zero, List.set_cons_succ]
      refine wpAnyH_take (i := 1) (v := ?_) rfl (by kernel_rfl) (by kernel_rfl) (by kernel_rfl) (fun _ _ _ h => h) (Or.inl ⟨by rfl, ?_⟩) (by assumption) ?_
      rotate_left 1
      · intro w _; go_simp; try with_reducible rfl
      try simp only [Act.put, List.getElem_toArray, List.getElem_cons_zero, List.getElem_cons_succ, List.setIfInBounds_toArray, List.set_cons_zero, List.set_cons_succ]
      refine wpAnyH_take (i := 2) (v := ?_) rfl (by kernel_rfl) (by kernel_rfl) (by kernel_rfl) (fun _ _ _ h => h) (Or.inl ⟨by rfl, ?_⟩) (by assumption) ?_
      rotate_left 1
      · intro w _; go_simp; try with_reducible rfl
      try simp only [Act.put, List.getElem_toArray, List.getElem_cons_zero, List.getElem_cons_succ, List.setIfInBounds_toArray, List.set_cons_zero, List.set_cons_succ]
      refine wpAnyH_take (i := 3) (v := ?_) rfl (by kernel_rfl) (by kernel_rfl) (by kernel_rfl) (fun _ _ _ h => h) (Or.inl ⟨by rfl, ?_⟩) (by assumption) ?_
      rotate_left 1
      · intro w hSw; (try dsimp only at hSw); obtain ⟨-, s0, s1, s2, s3, ⟨a0, a1, a2, a3, a4, a5, a6, a7⟩, -⟩ := hSw.out; dsimp only at s0 s1 s2 s3; go_simp; try with_reducible rfl
      try simp only [Act.put, List.getElem_toArray, List.getElem_cons_zero, List.getElem_cons_succ, List.setIfInBounds_toArray, List.set_cons_zero, List.set_cons_succ]
      refine wpAnyH_take (i := 4) (v := ?_) rfl (by kernel_rfl) (by kernel_rfl) (by kernel_rfl) (fun _ _ _ h => h) (Or.inl ⟨by rfl, ?_⟩) (by assumption) ?_
      rotate_left 1
      · intro w _; go_simp; try with_reducible rfl
      try simp only [Act.put, List.getElem_toArray, List.getElem_cons_zero, List.getElem_cons_succ, List.setIfInBounds_toArray, List.set_cons_zero, List.set_cons_succ]
      refine wpAnyH_take (i := 5) (v := ?_) rfl (by kernel_rfl) (by kernel_rfl) (by kernel_rfl) (fun _ _ _ h => h) (Or.inl ⟨by rfl, ?_⟩) (by assumption) ?_
      rotate_left 1
      · intro w hSw; (try dsimp only at hSw); obtain ⟨-, s0, s1, s2, s3, ⟨a0, a1, a2, a3, a4, a5, a6, a7⟩, -⟩ := hSw.out; dsimp only at s0 s1 s2 s3; go_simp; try with_reducible rfl
      try simp only [Act.put, List.getElem_toArray, List.getElem_cons_zero, List.getElem_cons_succ, List.setIfInBounds_toArray, List.set_cons_zero, List.set_cons_succ]
      refine wpAnyH_take (i := 6) (v := ?_) rfl (by kernel_rfl) (by kernel_rfl) (by kernel_rfl) (fun _ _ _ h => h) (Or.inl ⟨by rfl, ?_⟩) (by assumption) ?_
      rotate_left 1
      · intro w _; go_simp; try with_reducible rfl
      try simp only [Act.put, List.getElem_toArray, List.getElem_cons_zero, List.getElem_cons_succ, List.setIfInBounds_toArray, List.set_cons_zero, List.set_cons_succ]
      refine wpAnyH_take (i := 7) (v := ?_) rfl (by kernel_rfl) (by kernel_rfl) (by kernel_rfl) (fun _ _ _ h => h) (Or.inl ⟨by rfl, ?_⟩) (by assumption) ?_
      rotate_left 1
      · intro w _; go_simp; try with_reducible rfl
      try simp only [Act.put, List.getElem_toArray, List.getElem_cons_zero, List.getElem_cons_succ, List.setIfInBounds_toArray, List.set_cons_zero, List.set_cons_succ]
      refine wpAnyH_take (i := 8) (v := ?_) rfl (by kernel_rfl) (by kernel_rfl) (by kernel_rfl) (fun _ _ _ h => h) (Or.inl ⟨by rfl, ?_⟩) (by assumption) ?_
      rotate_left 1
      · intro w hSw; (try dsimp only at hSw); obtain ⟨-, s0, s1, s2, s3, ⟨a0, a1, a2, a3, a4, a5, a6, a7⟩, -⟩ := hSw.out; dsimp only at s0 s1 s2 s3; go_simp; try with_reducible rfl
      try simp only [Act.put, List.getElem_toArray, List.getElem_cons_zero, List.getElem_cons_succ, List.setIfInBounds_toArray, List.set_cons_zero, List.set_cons_succ]
      refine wpAnyH_ready (rs := [9]) (by kernel_rfl) (by simp) ?_
      refine AllReadyH.cons rfl (fun K hK => ?_) AllReadyH.nil
      go_simp
      refine (fits12_v (vf, vs, vh) xm hm _).mono ?_
      rintro r1 wb ⟨rfl, hb⟩
      rw [HFI.out]
      go_wp2_with fail
      refine hK.out _ _ (Hsx.call hb hHeld) (fun hHeld => ?_)
      clear hK K
      try simp only [Act.put, List.getElem_toArray, List.getElem_cons_zero, List.getElem_cons_succ, List.setIfInBounds_toArray, List.set_cons_zero, List.set_cons_succ]
      refine wpAnyH_take (i := 10) (v := ?_) rfl (by kernel_rfl) (by kernel_rfl) (by kernel_rfl) (fun _ _ _ h => h) (Or.inl ⟨by rfl, ?_⟩) (by assumption) ?_
      rotate_left 1
      · intro w _; go_simp; try with_reducible rfl
      try simp only [Act.put, List.getElem_toArray, List.getElem_cons_zero, List.getElem_cons_succ, List.setIfInBounds_toArray, List.set_cons_zero, List.set_cons_succ]
      refine wpAnyH_done (by kernel_rfl) ?_ _
      have HBR := Lib.hid hHeld.out.1
      clear SF hHeld
      have HA := Lib.hid (HA.out.keep HBR.out)
      have HB := Lib.hid (HB.out.trans (HBR.out.mono HB.out.size))
      clear HBR
      rename World => ws
      have hl := HD.out.len.trans HSL.out
      have SQ := Lib.hid (S5.out.call HB.out)
      obtain ⟨gl', hA2', hgg', hc⟩ := SQ.out.2.1.at_ ce3_len (cs12_at (d := d) (k := i) (by rw [HSL.out]; exact h1))
      injection hA2' with hA2'
      injection hA2' with hA2'
      subst hA2'
      have a0 := hc 0 (by omega)
      have a1 := hc 1 (by omega)
      have a2 := hc 2 (by omega)
      simp only [ce3, List.getElem?_cons_zero, List.getElem?_cons_succ, Nat.add_zero] at a0 a1 a2
      rw [HCE.out] at a0 a1 a2
      dsimp only at a0 a1 a2
      obtain ⟨y0, y1, y2, y3, y4⟩ := HA.out.db
      dsimp only at y1 y2 y3
      rw [hl] at y3
      obtain ⟨g, u6, ka, hAG, hg1, hg2, -, hf6, hka⟩ := HA.out.ow.2.2.1.cellB (i := i * 8 + 6) (by rw [hl]; omega)
      obtain ⟨ga, u4, kb, hA4, -, -, -, hf4, -⟩ := HA.out.ow.2.2.1.cellB (i := i * 8 + 4) (by rw [hl]; omega)
      obtain ⟨gb, u5, kc, hA5, -, -, -, hf5, -⟩ := HA.out.ow.2.2.1.cellB (i := i * 8 + 5) (by rw [hl]; omega)
      dsimp only at hAG hA4 hA5
      subst hAG
      injection hA4 with hA4
      injection hA4 with hA4
      subst hA4
      injection hA5 with hA5
      injection hA5 with hA5
      subst hA5
      obtain ⟨z, hz⟩ : ∃ z, ZZ[i]? = some z := ⟨_, List.getElem?_eq_getElem (by have h := HA.out.hq.zlen; dsimp only at h; rw [h, hl]; exact h1)⟩
      obtain ⟨hat, -⟩ := HA.out.at812 (j := i) rfl hz
      obtain ⟨-, -, -, -, c4, c5, c6, -⟩ := hat
      dsimp only at c4 c5 c6
      obtain ⟨Z3, hZ3, h3⟩ := HA.out.num12 rfl hka hg2 hz (vf, vs, vh) (by dsimp only; omega) (by dsimp only; omega) (by dsimp only; omega)
      obtain ⟨q1, q2⟩ := HA.out.set12 hz (vf, vs, vh)
      dsimp only at h3 q2
      rw [← hZ3] at q2
      have HD3 : Hid (Dn12 d { dd with s := Z3.map ze } (ce12 d) (i + 1)) := Lib.hid (HD.out.step q1 (by rw [HCE.out]; exact q2) rfl)
      clear hl hZ3 q1 q2 hc SQ
      have hgg0 : gl < wp.heap.size := by
        obtain ⟨g0, e0, h0, -⟩ := S5.out.2.1.at_ ce3_len (cs12_at (d := d) (k := i) (by rw [HSL.out]; exact h1))
        injection e0 with e0
        injection e0 with e0
        omega
      have ngl : g ≠ gl := by omega
      have ngM : g ≠ M := by omega
      have HSZ : Hid (ws.drew.cell? ⟨M, 2, none⟩ = some (.slice (some ⟨g, 0, none⟩) sl tc) ∧ ws.drew.cell? ⟨gl, i * 3, none⟩ = some (.int .i64 vf) ∧ ws.drew.cell? ⟨gl, i * 3 + 1, none⟩ = some (.int .i64 vs) ∧ ws.drew.cell? ⟨gl, i * 3 + 2, none⟩ = some (.int .i64 vh)) := Lib.hid ⟨y3, a0, a1, a2⟩
      have HSA : Hid ((ws.drew.setCell ⟨g, i * 8 + 4, none⟩ (.int .i64 vf)).cell? ⟨M, 2, none⟩ = some (.slice (some ⟨g, 0, none⟩) sl tc) ∧ (ws.drew.setCell ⟨g, i * 8 + 4, none⟩ (.int .i64 vf)).cell? ⟨gl, i * 3, none⟩ = some (.int .i64 vf) ∧ (ws.drew.setCell ⟨g, i * 8 + 4, none⟩ (.int .i64 vf)).cell? ⟨gl, i * 3 + 1, none⟩ = some (.int .i64 vs) ∧ (ws.drew.setCell ⟨g, i * 8 + 4, none⟩ (.int .i64 vf)).cell? ⟨gl, i * 3 + 2, none⟩ = some (.int .i64 vh)) := Lib.hid (by
        have ne : ∀ {b q : Nat} {u : Value}, g ≠ b → ws.drew.cell? ⟨b, q, none⟩ = some u → (ws.drew.setCell ⟨g, i * 8 + 4, none⟩ (.int .i64 vf)).cell? ⟨b, q, none⟩ = some u := fun hb hu => by
          rw [World.cell?_setCell_other _ _ _ _ (fun e => hb (by injection e))]
          exact hu
        exact ⟨ne ngM HSZ.out.1, ne ngl HSZ.out.2.1, ne ngl HSZ.out.2.2.1, ne ngl HSZ.out.2.2.2⟩)
      have HSB : Hid (((ws.drew.setCell ⟨g, i * 8 + 4, none⟩ (.int .i64 vf)).setCell ⟨g, i * 8 + 5, none⟩ (.int .i64 vs)).cell? ⟨M, 2, none⟩ = some (.slice (some ⟨g, 0, none⟩) sl tc) ∧ ((ws.drew.setCell ⟨g, i * 8 + 4, none⟩ (.int .i64 vf)).setCell ⟨g, i * 8 + 5, none⟩ (.int .i64 vs)).cell? ⟨gl, i * 3, none⟩ = some (.int .i64 vf) ∧ ((ws.drew.setCell ⟨g, i * 8 + 4, none⟩ (.int .i64 vf)).setCell ⟨g, i * 8 + 5, none⟩ (.int .i64 vs)).cell? ⟨gl, i * 3 + 1, none⟩ = some (.int .i64 vs) ∧ ((ws.drew.setCell ⟨g, i * 8 + 4, none⟩ (.int .i64 vf)).setCell ⟨g, i * 8 + 5, none⟩ (.int .i64 vs)).cell? ⟨gl, i * 3 + 2, none⟩ = some (.int .i64 vh)) := Lib.hid (by
        have ne : ∀ {b q : Nat} {u : Value}, g ≠ b → (ws.drew.setCell ⟨g, i * 8 + 4, none⟩ (.int .i64 vf)).cell? ⟨b, q, none⟩ = some u → ((ws.drew.setCell ⟨g, i * 8 + 4, none⟩ (.int .i64 vf)).setCell ⟨g, i * 8 + 5, none⟩ (.int .i64 vs)).cell? ⟨b, q, none⟩ = some u := fun hb hu => by
          rw [World.cell?_setCell_other _ _ _ _ (fun e => hb (by injection e))]
          exact hu
        exact ⟨ne ngM HSA.out.1, ne ngl HSA.out.2.1, ne ngl HSA.out.2.2.1, ne ngl HSA.out.2.2.2⟩)
      go_upto_region 16 with (fail)
      refine wp_region_L [32] (S := fun w' => w'.cell? ⟨M, 2, none⟩ = some (.slice (some ⟨g, 0, none⟩) sl tc) ∧ w'.cell? ⟨gl, i * 3, none⟩ = some (.int .i64 vf) ∧ w'.cell? ⟨gl, i * 3 + 1, none⟩ = some (.int .i64 vs) ∧ w'.cell? ⟨gl, i * 3 + 2, none⟩ = some (.int .i64 vh)) (by kernel_rfl) (HSZ.out) (fun hHeld => ?_)
      refine wpL_reckon (i := 0) (v := ?_) rfl (by kernel_rfl) (fun _ _ _ h => h) (Or.inl ⟨by rfl, ?_⟩) (Or.inr (by assumption)) ?_
      rotate_left 1
      · intro w _; go_simp; try with_reducible rfl
      try simp only [Act.put, List.getElem_toArray, List.getElem_cons_zero, List.getElem_cons_succ, List.setIfInBounds_toArray, List.set_cons_zero, List.set_cons_succ]
      refine wpL_take (i := 1) (v := ?_) rfl (by kernel_rfl) (fun _ _ _ h => h) (Or.inl ⟨by rfl, ?_⟩) (by assumption) ?_
      rotate_left 1
      · intro w hSw; (try dsimp only at hSw); obtain ⟨s0, s1, s2, s3⟩ := hSw; go_simp; try with_reducible rfl
      try simp only [Act.put, List.getElem_toArray, List.getElem_cons_zero, List.getElem_cons_succ, List.setIfInBounds_toArray, List.set_cons_zero, List.set_cons_succ]
      refine wpL_reckon (i := 2) (v := ?_) rfl (by kernel_rfl) (fun _ _ _ h => h) (Or.inl ⟨by rfl, ?_⟩) (Or.inr (by assumption)) ?_
      rotate_left 1
      · intro w _; go_simp; try with_reducible rfl
      try simp only [Act.put, List.getElem_toArray, List.getElem_cons_zero, List.getElem_cons_succ, List.setIfInBounds_toArray, List.set_cons_zero, List.set_cons_succ]
      refine wpL_reckon (i := 3) (v := ?_) rfl (by kernel_rfl) (fun _ _ _ h => h) (Or.inl ⟨by rfl, ?_⟩) (Or.inr (by assumption)) ?_
      rotate_left 1
      · intro w _; go_simp; try with_reducible rfl
      try simp only [Act.put, List.getElem_toArray, List.getElem_cons_zero, List.getElem_cons_succ, List.setIfInBounds_toArray, List.set_cons_zero, List.set_cons_succ]
      refine wpL_take (i := 4) (v := ?_) rfl (by kernel_rfl) (fun _ _ _ h => h) (Or.inl ⟨by rfl, ?_⟩) (by assumption) ?_
      rotate_left 1
      · intro w hSw; (try dsimp only at hSw); obtain ⟨s0, s1, s2, s3⟩ := hSw; go_simp; try with_reducible rfl
      try simp only [Act.put, List.getElem_toArray, List.getElem_cons_zero, List.getElem_cons_succ, List.setIfInBounds_toArray, List.set_cons_zero, List.set_cons_succ]
      refine wpL_reckon (i := 5) (v := ?_) rfl (by kernel_rfl) (fun _ _ _ h => h) (Or.inl ⟨by rfl, ?_⟩) (Or.inr (by assumption)) ?_
      rotate_left 1
      · intro w _; go_simp; try with_reducible rfl
      try simp only [Act.put, List.getElem_toArray, List.getElem_cons_zero, List.getElem_cons_succ, List.setIfInBounds_toArray, List.set_cons_zero, List.set_cons_succ]
      refine wpL_reckon (i := 6) (v := ?_) rfl (by kernel_rfl) (fun _ _ _ h => h) (Or.inl ⟨by rfl, ?_⟩) (Or.inr (by assumption)) ?_
      rotate_left 1
      · intro w _; go_simp; try with_reducible rfl
      try simp only [Act.put, List.getElem_toArray, List.getElem_cons_zero, List.getElem_cons_succ, List.setIfInBounds_toArray, List.set_cons_zero, List.set_cons_succ]
      refine wpL_take (i := 7) (v := ?_) rfl (by kernel_rfl) (fun _ _ _ h => h) (Or.inl ⟨by rfl, ?_⟩) (by assumption) ?_
      rotate_left 1
      · intro w hSw; (try dsimp only at hSw); obtain ⟨s0, s1, s2, s3⟩ := hSw; go_simp; try with_reducible rfl
      try simp only [Act.put, List.getElem_toArray, List.getElem_cons_zero, List.getElem_cons_succ, List.setIfInBounds_toArray, List.set_cons_zero, List.set_cons_succ]
      refine wpL_reckon (i := 8) (v := ?_) rfl (by kernel_rfl) (fun _ _ _ h => h) (Or.inl ⟨by rfl, ?_⟩) (Or.inr (by assumption)) ?_
      rotate_left 1
      · intro w _; go_simp; try with_reducible rfl
      try simp only [Act.put, List.getElem_toArray, List.getElem_cons_zero, List.getElem_cons_succ, List.setIfInBounds_toArray, List.set_cons_zero, List.set_cons_succ]
      refine wpL_reckon (i := 9) (v := ?_) rfl (by kernel_rfl) (fun _ _ _ h => h) (Or.inl ⟨by rfl, ?_⟩) (Or.inr (by assumption)) ?_
      rotate_left 1
      · intro w _; go_simp; try with_reducible rfl
      try simp only [Act.put, List.getElem_toArray, List.getElem_cons_zero, List.getElem_cons_succ, List.setIfInBounds_toArray, List.set_cons_zero, List.set_cons_succ]
      refine wpL_reckon (i := 10) (v := ?_) rfl (by kernel_rfl) (fun _ _ _ h => h) (Or.inl ⟨by rfl, ?_⟩) (Or.inr (by assumption)) ?_
      rotate_left 1
      · intro w _; go_simp; try with_reducible rfl
      try simp only [Act.put, List.getElem_toArray, List.getElem_cons_zero, List.getElem_cons_succ, List.setIfInBounds_toArray, List.set_cons_zero, List.set_cons_succ]
      refine wpL_reckon (i := 11) (v := ?_) rfl (by kernel_rfl) (fun _ _ _ h => h) (Or.inl ⟨by rfl, ?_⟩) (Or.inr (by assumption)) ?_
      rotate_left 1
      · intro w _; go_simp; try with_reducible rfl
      try simp only [Act.put, List.getElem_toArray, List.getElem_cons_zero, List.getElem_cons_succ, List.setIfInBounds_toArray, List.set_cons_zero, List.set_cons_succ]
      refine wpL_reckon (i := 12) (v := ?_) rfl (by kernel_rfl) (fun _ _ _ h => h) (Or.inl ⟨by rfl, ?_⟩) (Or.inr (by assumption)) ?_
      rotate_left 1
      · intro w _; go_simp; try with_reducible rfl
      try simp only [Act.put, List.getElem_toArray, List.getElem_cons_zero, List.getElem_cons_succ, List.setIfInBounds_toArray, List.set_cons_zero, List.set_cons_succ]
      refine wpL_take (i := 13) (v := ?_) rfl (by kernel_rfl) (fun _ _ _ h => h) (Or.inl ⟨by rfl, ?_⟩) (by assumption) ?_
      rotate_left 1
      · intro w hSw; (try dsimp only at hSw); obtain ⟨s0, s1, s2, s3⟩ := hSw; go_simp; try with_reducible rfl
      try simp only [Act.put, List.getElem_toArray, List.getElem_cons_zero, List.getElem_cons_succ, List.setIfInBounds_toArray, List.set_cons_zero, List.set_cons_succ]
      refine wpL_reckon (i := 14) (v := ?_) rfl (by kernel_rfl) (fun _ _ _ h => h) (Or.inl ⟨by rfl, ?_⟩) (Or.inr (by assumption)) ?_
      rotate_left 1
      · intro w _; go_simp; try with_reducible rfl
      try simp only [Act.put, List.getElem_toArray, List.getElem_cons_zero, List.getElem_cons_succ, List.setIfInBounds_toArray, List.set_cons_zero, List.set_cons_succ]
      refine wpL_reckon (i := 15) (v := ?_) rfl (by kernel_rfl) (fun _ _ _ h => h) (Or.inl ⟨by rfl, ?_⟩) (Or.inr (by assumption)) ?_
      rotate_left 1
      · intro w _; go_simp; try with_reducible rfl
      try simp only [Act.put, List.getElem_toArray, List.getElem_cons_zero, List.getElem_cons_succ, List.setIfInBounds_toArray, List.set_cons_zero, List.set_cons_succ]
      refine wpL_reckon (i := 16) (v := ?_) rfl (by kernel_rfl) (fun _ _ _ h => h) (Or.inl ⟨by rfl, ?_⟩) (Or.inr (by assumption)) ?_
      rotate_left 1
      · intro w _; go_simp; try with_reducible rfl
      try simp only [Act.put, List.getElem_toArray, List.getElem_cons_zero, List.getElem_cons_succ, List.setIfInBounds_toArray, List.set_cons_zero, List.set_cons_succ]
      refine wpL_reckon (i := 17) (v := ?_) rfl (by kernel_rfl) (fun _ _ _ h => h) (Or.inl ⟨by rfl, ?_⟩) (Or.inr (by assumption)) ?_
      rotate_left 1
      · intro w _; go_simp; try with_reducible rfl
      try simp only [Act.put, List.getElem_toArray, List.getElem_cons_zero, List.getElem_cons_succ, List.setIfInBounds_toArray, List.set_cons_zero, List.set_cons_succ]
      refine wpL_take (i := 18) (v := ?_) rfl (by kernel_rfl) (fun _ _ _ h => h) (Or.inl ⟨by rfl, ?_⟩) (by assumption) ?_
      rotate_left 1
      · intro w hSw; (try dsimp only at hSw); obtain ⟨s0, s1, s2, s3⟩ := hSw; go_simp; try with_reducible rfl
      try simp only [Act.put, List.getElem_toArray, List.getElem_cons_zero, List.getElem_cons_succ, List.setIfInBounds_toArray, List.set_cons_zero, List.set_cons_succ]
      refine wpL_reckon (i := 19) (v := ?_) rfl (by kernel_rfl) (fun _ _ _ h => h) (Or.inl ⟨by rfl, ?_⟩) (Or.inr (by assumption)) ?_
      rotate_left 1
      · intro w _; go_simp; try with_reducible rfl
      try simp only [Act.put, List.getElem_toArray, List.getElem_cons_zero, List.getElem_cons_succ, List.setIfInBounds_toArray, List.set_cons_zero, List.set_cons_succ]
      refine wpL_reckon (i := 20) (v := ?_) rfl (by kernel_rfl) (fun _ _ _ h => h) (Or.inl ⟨by rfl, ?_⟩) (Or.inr (by assumption)) ?_
      rotate_left 1
      · intro w _; go_simp; try with_reducible rfl
      try simp only [Act.put, List.getElem_toArray, List.getElem_cons_zero, List.getElem_cons_succ, List.setIfInBounds_toArray, List.set_cons_zero, List.set_cons_succ]
      refine wpL_reckon (i := 21) (v := ?_) rfl (by kernel_rfl) (fun _ _ _ h => h) (Or.inl ⟨by rfl, ?_⟩) (Or.inr (by assumption)) ?_
      rotate_left 1
      · intro w _; go_simp; try with_reducible rfl
      try simp only [Act.put, List.getElem_toArray, List.getElem_cons_zero, List.getElem_cons_succ, List.setIfInBounds_toArray, List.set_cons_zero, List.set_cons_succ]
      refine wpL_reckon (i := 22) (v := ?_) rfl (by kernel_rfl) (fun _ _ _ h => h) (Or.inl ⟨by rfl, ?_⟩) (Or.inr (by assumption)) ?_
      rotate_left 1
      · intro w _; go_simp; try with_reducible rfl
      try simp only [Act.put, List.getElem_toArray, List.getElem_cons_zero, List.getElem_cons_succ, List.setIfInBounds_toArray, List.set_cons_zero, List.set_cons_succ]
      refine wpL_take (i := 23) (v := ?_) rfl (by kernel_rfl) (fun _ _ _ h => h) (Or.inl ⟨by rfl, ?_⟩) (by assumption) ?_
      rotate_left 1
      · intro w hSw; (try dsimp only at hSw); obtain ⟨s0, s1, s2, s3⟩ := hSw; go_simp; try with_reducible rfl
      try simp only [Act.put, List.getElem_toArray, List.getElem_cons_zero, List.getElem_cons_succ, List.setIfInBounds_toArray, List.set_cons_zero, List.set_cons_succ]
      refine wpL_reckon (i := 24) (v := ?_) rfl (by kernel_rfl) (fun _ _ _ h => h) (Or.inl ⟨by rfl, ?_⟩) (Or.inr (by assumption)) ?_
      rotate_left 1
      · intro w _; go_simp; try with_reducible rfl
      try simp only [Act.put, List.getElem_toArray, List.getElem_cons_zero, List.getElem_cons_succ, List.setIfInBounds_toArray, List.set_cons_zero, List.set_cons_succ]
      refine wpL_reckon (i := 25) (v := ?_) rfl (by kernel_rfl) (fun _ _ _ h => h) (Or.inl ⟨by rfl, ?_⟩) (Or.inr (by assumption)) ?_
      rotate_left 1
      · intro w _; go_simp; try with_reducible rfl
      try simp only [Act.put, List.getElem_toArray, List.getElem_cons_zero, List.getElem_cons_succ, List.setIfInBounds_toArray, List.set_cons_zero, List.set_cons_succ]
      refine wpL_ready (rs := [26]) (by kernel_rfl) (by simp) ?_
      refine AllL.cons rfl (fun K hK => ?_) AllL.nil
      go_simp
      go_simp
      go_wp2_with fail
      refine hK.out _ _ (HSA.out) (fun hHeld => ?_)
      clear hK K
      try simp only [Act.put, List.getElem_toArray, List.getElem_cons_zero, List.getElem_cons_succ, List.setIfInBounds_toArray, List.set_cons_zero, List.set_cons_succ]
      refine wpL_reckon (i := 27) (v := ?_) rfl (by kernel_rfl) (fun _ _ _ h => h) (Or.inl ⟨by rfl, ?_⟩) (Or.inr (by assumption)) ?_
      rotate_left 1
      · intro w _; go_simp; try with_reducible rfl
      try simp only [Act.put, List.getElem_toArray, List.getElem_cons_zero, List.getElem_cons_succ, List.setIfInBounds_toArray, List.set_cons_zero, List.set_cons_succ]
      refine wpL_reckon (i := 28) (v := ?_) rfl (by kernel_rfl) (fun _ _ _ h => h) (Or.inl ⟨by rfl, ?_⟩) (Or.inr (by assumption)) ?_
      rotate_left 1
      · intro w _; go_simp; try with_reducible rfl
      try simp only [Act.put, List.getElem_toArray, List.getElem_cons_zero, List.getElem_cons_succ, List.setIfInBounds_toArray, List.set_cons_zero, List.set_cons_succ]
      refine wpL_ready (rs := [29]) (by kernel_rfl) (by simp) ?_
      refine AllL.cons rfl (fun K hK => ?_) AllL.nil
      go_simp
      go_simp
      go_wp2_with fail
      refine hK.out _ _ (HSB.out) (fun hHeld => ?_)
      clear hK K
      try simp only [Act.put, List.getElem_toArray, List.getElem_cons_zero, List.getElem_cons_succ, List.setIfInBounds_toArray, List.set_cons_zero, List.set_cons_succ]
      refine wpL_reckon (i := 30) (v := ?_) rfl (by kernel_rfl) (fun _ _ _ h => h) (Or.inl ⟨by rfl, ?_⟩) (Or.inr (by assumption)) ?_
      rotate_left 1
      · intro w _; go_simp; try with_reducible rfl
      try simp only [Act.put, List.getElem_toArray, List.getElem_cons_zero, List.getElem_cons_succ, List.setIfInBounds_toArray, List.set_cons_zero, List.set_cons_succ]
      refine wpL_reckon (i := 31) (v := ?_) rfl (by kernel_rfl) (fun _ _ _ h => h) (Or.inl ⟨by rfl, ?_⟩) (Or.inr (by assumption)) ?_
      rotate_left 1
      · intro w _; go_simp; try with_reducible rfl
      try simp only [Act.put, List.getElem_toArray, List.getElem_cons_zero, List.getElem_cons_succ, List.setIfInBounds_toArray, List.set_cons_zero, List.set_cons_succ]
      refine wpL_ready (rs := [32]) (by kernel_rfl) (by simp) ?_
      refine AllL.late rfl (by kernel_rfl) (fun K hK => ?_) AllL.nil
      go_simp
      refine hK.out _ _ ?_
      clear hK K
      try simp only [Act.put, List.getElem_toArray, List.getElem_cons_zero, List.getElem_cons_succ, List.setIfInBounds_toArray, List.set_cons_zero, List.set_cons_succ]
      refine wpL_done (by kernel_rfl) ?_ _
      have HA3 : Hid (Aw wp.heap.size M M d (-1) (((ws.setCell ⟨g, i * 8 + 4, none⟩ (.int .i64 vf)).setCell ⟨g, i * 8 + 5, none⟩ (.int .i64 vs)).setCell ⟨g, i * 8 + 6, none⟩ (.int .i64 vh)).drew ⟨TG, tgc, TP, tpc, (some ⟨g, 0, none⟩), tc, Z3⟩ { dd with s := Z3.map ze }) := Lib.hid (h3.keep (below_draws (Below.refl _ _) 1))
      have HB3 : Hid (Below wp.heap.size wp (((ws.setCell ⟨g, i * 8 + 4, none⟩ (.int .i64 vf)).setCell ⟨g, i * 8 + 5, none⟩ (.int .i64 vs)).setCell ⟨g, i * 8 + 6, none⟩ (.int .i64 vh)).drew) := Lib.hid (below_draws (((HB.out.setCell (p := ⟨g, i * 8 + 4, none⟩) hg1 _).setCell (p := ⟨g, i * 8 + 5, none⟩) hg1 _).setCell (p := ⟨g, i * 8 + 6, none⟩) hg1 _) 1)
      clear h3 c4 c5 c6 y0 y1 y2 y3 y4 hf4 hf5 hf6 hka HA HB hz HD a0 a1 a2 HSZ HSA HSB hHeld
      generalize (((ws.setCell ⟨g, i * 8 + 4, none⟩ (.int .i64 vf)).setCell ⟨g, i * 8 + 5, none⟩ (.int .i64 vs)).setCell ⟨g, i * 8 + 6, none⟩ (.int .i64 vh)).drew = wA at HA3 HB3 ⊢
      go_wp2_with fail
      go_roundw
      case rel => exact ⟨i + 1, Z3, { dd with s := Z3.map ze }, by omega, by go_num, HA3, HD3, HB3⟩
      case measure => simp [intOf]; omega
    · obtain rfl : sl = i := by omega
      go_upto_region 17 with (fail)
      have HCD := Lib.hid (dn12_fits HD.out (by rw [HSL.out]; exact Nat.le_refl _) HA.out.sa HE.out)
      have HQG := Lib.hid HA.out.qg
      have HC2 := Lib.hid (costs12_v ⟨TG, tgc, TP, tpc, TA, tc, ZZ⟩ dd wr HA.out.hq HQG.out)
      obtain ⟨y0, y1, y2, y3, y4⟩ := HA.out.db
      dsimp only at y1 y2 y3
      go_wp2_with fail
      refine HC2.out.mono ?_
      rintro r w7 ⟨A2, c2, rfl, ho2, hb⟩
      have hrg := (Rg.of_own ce3_len (by omega) ho2).1
      rw [HCD.out] at hrg ⊢
      dsimp only at hrg ⊢
      rw [HCL.out]
      have HA7 := Lib.hid (HA.out.keep hb)
      have HB7 := Lib.hid (HB.out.trans (hb.mono HB.out.size))
      have S7 := Lib.hid (S5.out.call HB7.out)
      have HSM := Lib.hid (r12same_v A2 A1 c2 c1 sl (cs12 d) w7 hrg S7.out.2.1 HCL.out (by omega))
      clear HC2 ho2 hb hrg y0 y1 y2 y3 y4 HA HB SQ S7
      go_wp2_with fail
      refine HSM.out.mono ?_
      rintro r w8 ⟨rfl, hb⟩
      have HA8 := Lib.hid (HA7.out.keep hb)
      have HB8 := Lib.hid (HB7.out.trans (hb.mono HB7.out.size))
      have HBW8 := Lib.hid (S5.out.call HB8.out).1
      clear HSM hb HA7 HB7
      by_cases hk0 : k0 < 0
      · have e0 : decide (k0 < 0) = true := by simpa using hk0
        go_wp2_with fail
        go_ret
        exact ⟨rfl, HBW8.out⟩
      have e0 : decide (k0 < 0) = false := by simpa using hk0
      by_cases hks : (sl : Int) ≤ k0
      · have e1 : decide ((sl : Int) ≤ k0) = true := by simpa using hks
        go_wp2_with fail
        go_ret
        exact ⟨rfl, HBW8.out⟩
      have e1 : decide ((sl : Int) ≤ k0) = false := by simpa using hks
      by_cases hl1 : less < 1
      · have e2 : decide (less < 1) = true := by simpa using hl1
        go_wp2_with fail
        go_ret
        exact ⟨rfl, HBW8.out⟩
      have e2 : decide (less < 1) = false := by simpa using hl1
      by_cases hl2 : 1000 < less
      · have e3 : decide (1000 < less) = true := by simpa using hl2
        go_wp2_with fail
        go_ret
        exact ⟨rfl, HBW8.out⟩
      have e3 : decide (1000 < less) = false := by simpa using hl2
      obtain ⟨k, rfl⟩ : ∃ k' : Nat, k0 = k' := ⟨k0.toNat, by omega⟩
      have hkn : k < sl := by omega
      obtain ⟨q, hq⟩ : ∃ q, (IntKind.u64.wrap which).tmod 4 = q := ⟨_, rfl⟩
      have hfb := fi12_iff.1 (HFI9.out k hkn)
      obtain ⟨⟨vf, vs, vh⟩, hv⟩ : ∃ v, ce12 d k = v := ⟨_, rfl⟩
      have HCE := Lib.hid hv
      rw [hv] at hfb
      dsimp only at hfb
      clear hv
      go_upto_region 25 with (fail)
      clear hq e0 e1 e2 e3
      by_cases q0 : q = 0
      · have b0 : (q == 0) = true := by simpa using q0
        subst q0
        have hl := HD.out.len.trans HSL.out
        obtain ⟨y0, y1, y2, y3, y4⟩ := HA8.out.db
        dsimp only at y1 y2 y3
        rw [hl] at y3
        obtain ⟨g, u4, ka, hAG, hg1, hg2, -, hf4, hka⟩ := HA8.out.ow.2.2.1.cellB (i := k * 8 + 4) (by rw [hl]; omega)
        dsimp only at hAG
        subst hAG
        obtain ⟨z, hz⟩ : ∃ z, ZZ[k]? = some z := ⟨_, List.getElem?_eq_getElem (by have h := HA8.out.hq.zlen; dsimp only at h; rw [h, hl]; exact hkn)⟩
        obtain ⟨hat, -⟩ := HA8.out.at812 (j := k) rfl hz
        have hzk : z.m.f = vf := by
          have h3 := HD.out.at_ k _ (List.getElem?_eq_getElem (by rw [HSL.out]; exact hkn))
          rw [if_pos hkn, (HA8.out.set12 hz (0, 0, 0)).1] at h3
          injection h3 with h3
          have := congrArg Prod.fst h3
          dsimp only at this
          rw [this, HCE.out]
          rfl
        obtain ⟨-, -, -, -, c4, c5, c6, -⟩ := hat
        dsimp only at c4 c5 c6
        rw [hzk] at c4
        have hwr : IntKind.i64.wrap (vf - less) = vf - less := wrap_small (by omega)
        obtain ⟨Z9, dd9, h9, hD9⟩ := HA8.out.turn12 HD.out (by rw [HSL.out]; exact Nat.le_refl _) rfl hka hg2 hz (f := 4) (v := vf - less) (by omega) (c' := (vf - less, vs, vh)) (.inl ⟨rfl, by rw [HCE.out]⟩)
        have HRES := Lib.hid (dn12_less hD9 (by rw [HSL.out]; exact Nat.le_refl _) h9.sa HE.out (by rw [HSL.out]; exact hkn) (.inl (by rw [HCE.out]; dsimp only; omega)))
        clear hl hzk
        go_upto_region 26 with (fail)
        go_region
        have HA9 : Hid (Aw wp.heap.size M M d (-1) (w8.setCell ⟨g, k * 8 + 4, none⟩ (.int .i64 (vf - less))).drew ⟨TG, tgc, TP, tpc, (some ⟨g, 0, none⟩), tc, Z9⟩ dd9) := Lib.hid (h9.keep (below_draws (Below.refl _ _) 1))
        have HB9 : Hid (Below wp.heap.size wp (w8.setCell ⟨g, k * 8 + 4, none⟩ (.int .i64 (vf - less))).drew) := Lib.hid (below_draws (HB8.out.setCell (p := ⟨g, k * 8 + 4, none⟩) hg1 _) 1)
        clear h9 c4 c5 c6 y0 y1 y2 y3 y4 hf4 hka HA8 HB8 hz hD9 hwr
        generalize (w8.setCell ⟨g, k * 8 + 4, none⟩ (.int .i64 (vf - less))).drew = wA at HA9 HB9 ⊢
        have HK := Lib.hid (check12_v ⟨TG, tgc, TP, tpc, (some ⟨g, 0, none⟩), tc, Z9⟩ dd9 wA HA9.out.hq HA9.out.qg)
        rw [HRES.out] at HK
        obtain ⟨y0, y1, y2, y3, y4⟩ := HA9.out.db
        dsimp only at y1 y2 y3
        go_wp2_with fail
        refine HK.out.mono ?_
        rintro r wB ⟨rfl, hb⟩
        have HBF := Lib.hid (S5.out.call (HB9.out.trans (hb.mono HB9.out.size))).1
        clear HK hb y0 y1 y2 y3 y4
        go_wp2_with fail
        go_ret
        exact ⟨rfl, HBF.out⟩
      have b0 : (q == 0) = false := by simpa using q0
      by_cases q1 : q = 1
      · have b1 : (q == 1) = true := by simpa using q1
        subst q1
        have hl := HD.out.len.trans HSL.out
        obtain ⟨y0, y1, y2, y3, y4⟩ := HA8.out.db
        dsimp only at y1 y2 y3
        rw [hl] at y3
        obtain ⟨g, u4, ka, hAG, hg1, hg2, -, hf4, hka⟩ := HA8.out.ow.2.2.1.cellB (i := k * 8 + 5) (by rw [hl]; omega)
        dsimp only at hAG
        subst hAG
        obtain ⟨z, hz⟩ : ∃ z, ZZ[k]? = some z := ⟨_, List.getElem?_eq_getElem (by have h := HA8.out.hq.zlen; dsimp only at h; rw [h, hl]; exact hkn)⟩
        obtain ⟨hat, -⟩ := HA8.out.at812 (j := k) rfl hz
        have hzk : z.m.s = vs := by
          have h3 := HD.out.at_ k _ (List.getElem?_eq_getElem (by rw [HSL.out]; exact hkn))
          rw [if_pos hkn, (HA8.out.set12 hz (0, 0, 0)).1] at h3
          injection h3 with h3
          have := congrArg Prod.fst h3
          dsimp only at this
          rw [this, HCE.out]
          rfl
        obtain ⟨-, -, -, -, c4, c5, c6, -⟩ := hat
        dsimp only at c4 c5 c6
        rw [hzk] at c5
        have hwr : IntKind.i64.wrap (vs - less) = vs - less := wrap_small (by omega)
        obtain ⟨Z9, dd9, h9, hD9⟩ := HA8.out.turn12 HD.out (by rw [HSL.out]; exact Nat.le_refl _) rfl hka hg2 hz (f := 5) (v := vs - less) (by omega) (c' := (vf, vs - less, vh)) (.inr (.inl ⟨rfl, by rw [HCE.out]⟩))
        have HRES := Lib.hid (dn12_less hD9 (by rw [HSL.out]; exact Nat.le_refl _) h9.sa HE.out (by rw [HSL.out]; exact hkn) (.inr (.inl (by rw [HCE.out]; dsimp only; omega))))
        clear hl hzk
        go_upto_region 28 with (fail)
        go_region
        have HA9 : Hid (Aw wp.heap.size M M d (-1) (w8.setCell ⟨g, k * 8 + 5, none⟩ (.int .i64 (vs - less))).drew ⟨TG, tgc, TP, tpc, (some ⟨g, 0, none⟩), tc, Z9⟩ dd9) := Lib.hid (h9.keep (below_draws (Below.refl _ _) 1))
        have HB9 : Hid (Below wp.heap.size wp (w8.setCell ⟨g, k * 8 + 5, none⟩ (.int .i64 (vs - less))).drew) := Lib.hid (below_draws (HB8.out.setCell (p := ⟨g, k * 8 + 5, none⟩) hg1 _) 1)
        clear h9 c4 c5 c6 y0 y1 y2 y3 y4 hf4 hka HA8 HB8 hz hD9 hwr
        generalize (w8.setCell ⟨g, k * 8 + 5, none⟩ (.int .i64 (vs - less))).drew = wA at HA9 HB9 ⊢
        have HK := Lib.hid (check12_v ⟨TG, tgc, TP, tpc, (some ⟨g, 0, none⟩), tc, Z9⟩ dd9 wA HA9.out.hq HA9.out.qg)
        rw [HRES.out] at HK
        obtain ⟨y0, y1, y2, y3, y4⟩ := HA9.out.db
        dsimp only at y1 y2 y3
        go_wp2_with fail
        refine HK.out.mono ?_
        rintro r wB ⟨rfl, hb⟩
        have HBF := Lib.hid (S5.out.call (HB9.out.trans (hb.mono HB9.out.size))).1
        clear HK hb y0 y1 y2 y3 y4
        go_wp2_with fail
        go_ret
        exact ⟨rfl, HBF.out⟩
      have b1 : (q == 1) = false := by simpa using q1
      by_cases q2 : q = 2
      · have b2 : (q == 2) = true := by simpa using q2
        subst q2
        have hl := HD.out.len.trans HSL.out
        obtain ⟨y0, y1, y2, y3, y4⟩ := HA8.out.db
        dsimp only at y1 y2 y3
        rw [hl] at y3
        obtain ⟨g, u4, ka, hAG, hg1, hg2, -, hf4, hka⟩ := HA8.out.ow.2.2.1.cellB (i := k * 8 + 6) (by rw [hl]; omega)
        dsimp only at hAG
        subst hAG
        obtain ⟨z, hz⟩ : ∃ z, ZZ[k]? = some z := ⟨_, List.getElem?_eq_getElem (by have h := HA8.out.hq.zlen; dsimp only at h; rw [h, hl]; exact hkn)⟩
        obtain ⟨hat, -⟩ := HA8.out.at812 (j := k) rfl hz
        have hzk : z.m.h = vh := by
          have h3 := HD.out.at_ k _ (List.getElem?_eq_getElem (by rw [HSL.out]; exact hkn))
          rw [if_pos hkn, (HA8.out.set12 hz (0, 0, 0)).1] at h3
          injection h3 with h3
          have := congrArg Prod.fst h3
          dsimp only at this
          rw [this, HCE.out]
          rfl
        obtain ⟨-, -, -, -, c4, c5, c6, -⟩ := hat
        dsimp only at c4 c5 c6
        rw [hzk] at c6
        have hwr : IntKind.i64.wrap (vh - less) = vh - less := wrap_small (by omega)
        obtain ⟨Z9, dd9, h9, hD9⟩ := HA8.out.turn12 HD.out (by rw [HSL.out]; exact Nat.le_refl _) rfl hka hg2 hz (f := 6) (v := vh - less) (by omega) (c' := (vf, vs, vh - less)) (.inr (.inr ⟨rfl, by rw [HCE.out]⟩))
        have HRES := Lib.hid (dn12_less hD9 (by rw [HSL.out]; exact Nat.le_refl _) h9.sa HE.out (by rw [HSL.out]; exact hkn) (.inr (.inr (by rw [HCE.out]; dsimp only; omega))))
        clear hl hzk
        go_upto_region 30 with (fail)
        go_region
        have HA9 : Hid (Aw wp.heap.size M M d (-1) (w8.setCell ⟨g, k * 8 + 6, none⟩ (.int .i64 (vh - less))).drew ⟨TG, tgc, TP, tpc, (some ⟨g, 0, none⟩), tc, Z9⟩ dd9) := Lib.hid (h9.keep (below_draws (Below.refl _ _) 1))
        have HB9 : Hid (Below wp.heap.size wp (w8.setCell ⟨g, k * 8 + 6, none⟩ (.int .i64 (vh - less))).drew) := Lib.hid (below_draws (HB8.out.setCell (p := ⟨g, k * 8 + 6, none⟩) hg1 _) 1)
        clear h9 c4 c5 c6 y0 y1 y2 y3 y4 hf4 hka HA8 HB8 hz hD9 hwr
        generalize (w8.setCell ⟨g, k * 8 + 6, none⟩ (.int .i64 (vh - less))).drew = wA at HA9 HB9 ⊢
        have HK := Lib.hid (check12_v ⟨TG, tgc, TP, tpc, (some ⟨g, 0, none⟩), tc, Z9⟩ dd9 wA HA9.out.hq HA9.out.qg)
        rw [HRES.out] at HK
        obtain ⟨y0, y1, y2, y3, y4⟩ := HA9.out.db
        dsimp only at y1 y2 y3
        go_wp2_with fail
        refine HK.out.mono ?_
        rintro r wB ⟨rfl, hb⟩
        have HBF := Lib.hid (S5.out.call (HB9.out.trans (hb.mono HB9.out.size))).1
        clear HK hb y0 y1 y2 y3 y4
        go_wp2_with fail
        go_ret
        exact ⟨rfl, HBF.out⟩
      have b2 : (q == 2) = false := by simpa using q2
      have hl := HD.out.len.trans HSL.out
      obtain ⟨y0, y1, y2, y3, y4⟩ := HA8.out.db
      dsimp only at y1 y2 y3
      rw [hl] at y3
      obtain ⟨g, u4, ka, hAG, hg1, hg2, -, hf4, hka⟩ := HA8.out.ow.2.2.1.cellB (i := k * 8 + 4) (by rw [hl]; omega)
      dsimp only at hAG
      subst hAG
      obtain ⟨z, hz⟩ : ∃ z, ZZ[k]? = some z := ⟨_, List.getElem?_eq_getElem (by have h := HA8.out.hq.zlen; dsimp only at h; rw [h, hl]; exact hkn)⟩
      obtain ⟨hat, -⟩ := HA8.out.at812 (j := k) rfl hz
      have hzk : z.m.f = vf := by
        have h3 := HD.out.at_ k _ (List.getElem?_eq_getElem (by rw [HSL.out]; exact hkn))
        rw [if_pos hkn, (HA8.out.set12 hz (0, 0, 0)).1] at h3
        injection h3 with h3
        have := congrArg Prod.fst h3
        dsimp only at this
        rw [this, HCE.out]
        rfl
      obtain ⟨-, -, -, -, c4, c5, c6, -⟩ := hat
      dsimp only at c4 c5 c6
      rw [hzk] at c4
      have hwr : IntKind.i64.wrap (vf - less) = vf - less := wrap_small (by omega)
      obtain ⟨Z9, dd9, h9, hD9⟩ := HA8.out.turn12 HD.out (by rw [HSL.out]; exact Nat.le_refl _) rfl hka hg2 hz (f := 4) (v := 1099511627776) (by omega) (c' := (1099511627776, vs, vh)) (.inl ⟨rfl, by rw [HCE.out]⟩)
      have HRES := Lib.hid (dn12_more (v := 1099511627776) (by rw [HCE.out]; exact hD9) (by rw [HSL.out]; exact Nat.le_refl _) h9.sa HE.out (by omega))
      clear hl hzk
      go_upto_region 24 with (fail)
      have HA9 : Hid (Aw wp.heap.size M M d (-1) (w8.setCell ⟨g, k * 8 + 4, none⟩ (.int .i64 1099511627776)) ⟨TG, tgc, TP, tpc, (some ⟨g, 0, none⟩), tc, Z9⟩ dd9) := Lib.hid h9
      have HB9 : Hid (Below wp.heap.size wp (w8.setCell ⟨g, k * 8 + 4, none⟩ (.int .i64 1099511627776))) := Lib.hid (HB8.out.setCell (p := ⟨g, k * 8 + 4, none⟩) hg1 _)
      clear h9 c4 c5 c6 y0 y1 y2 y3 y4 hf4 hka HA8 HB8 hz hD9 hwr
      generalize w8.setCell ⟨g, k * 8 + 4, none⟩ (.int .i64 1099511627776) = wA at HA9 HB9 ⊢
      have HK := Lib.hid (check12_v ⟨TG, tgc, TP, tpc, (some ⟨g, 0, none⟩), tc, Z9⟩ dd9 wA HA9.out.hq HA9.out.qg)
      rw [HRES.out] at HK
      obtain ⟨y0, y1, y2, y3, y4⟩ := HA9.out.db
      dsimp only at y1 y2 y3
      go_wp2_with fail
      refine HK.out.mono ?_
      rintro r wB ⟨rfl, hb⟩
      have HBF := Lib.hid (S5.out.call (HB9.out.trans (hb.mono HB9.out.size))).1
      clear HK hb y0 y1 y2 y3 y4
      go_wp2_with fail
      go_ret
      exact ⟨rfl, HBF.out⟩
end Go.Proofs.YtmgppdjbmhjmbaaGreat
