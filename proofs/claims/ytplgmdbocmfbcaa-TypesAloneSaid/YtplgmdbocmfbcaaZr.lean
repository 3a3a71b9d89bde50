/-
  Layer 10: the law TypesUnseen.
-/
import Derived.Test.YtplgmdbocmfbcaaZp
import Derived.Test.YtplgmdbocmfbcaaZq
import Derived.Test.YtplgmdbocmfbcaaRcp
import Derived.Test.YtplgmdbocmfbcaaLf
namespace Go.Proofs.Ytplgmdbocmfbcaa
open Go.RowKit
set_option maxRecDepth 100000
set_option linter.unusedSimpArgs false
set_option linter.unusedVariables false

def oo10 (q : Nat) : Int := [0, 9, 31, 32, 6, 8][q]?.getD 0
theorem oo10_ok {q : Nat} (h : q < 6) : (0 ≤ oo10 q ∧ oo10 q < 256) ∧ (oo10 q < 26 ∨ 29 < oo10 q) ∧ inM (oo10 q, 0, 0) = true ∧ (oo10 q ≠ 1 ∧ oo10 q ≠ 2 ∧ oo10 q ≠ 3 ∧ oo10 q ≠ 4 ∧ oo10 q ≠ 5 ∧ oo10 q ≠ 30) := by
  match q, h with
  | 0, _ => decide
  | 1, _ => decide
  | 2, _ => decide
  | 3, _ => decide
  | 4, _ => decide
  | 5, _ => decide
abbrev fOw (lo hi : Nat) (y : Ma) (d : Md) : Fct := ⟨fun w => Ow w lo hi y d, fun _ _ h hb => h.keep hb⟩
set_option maxHeartbeats 16000000 in
theorem unseen10_walk (y : Ma) (d : Md) (k j u : Int) (w : World) (hq : Hq w y d) (hu : 0 ≤ u ∧ u < 256) : Calls Try.prog 5 #[dv y d, .int .i64 k, .int .i64 j, .int .u8 u] w fun e w' => e = .returned (.bool true) ∧ Below w.heap.size w w' := by
  obtain ⟨u, rfl⟩ : ∃ u' : Nat, u = u' := ⟨u.toNat, by omega⟩
  have hu2 : u < 256 := by omega
  clear hu
  obtain ⟨G, gc, P, pc, AA, cc, Z⟩ := y
  have S0 := Lib.hid ((((Sx.start w).add (fQm ⟨G, gc, P, pc, AA, cc, Z⟩ d) hq).mkD ⟨G, gc, P, pc, AA, cc, Z⟩ d))
  have HZL := Lib.hid hq.zlen
  obtain ⟨B, hB⟩ : ∃ B, w.heap.size = B := ⟨_, rfl⟩
  have HBB := Lib.hid hB
  rw [hB] at S0
  clear hq
  go_enter Try.func5, Try.ntmps5
  go_upto_region 1 with (fail)
  change Code.wp _ _ _ _ (w.alloc (dcel ⟨G, gc, P, pc, AA, cc, Z⟩ d))
  generalize w.alloc (dcel ⟨G, gc, P, pc, AA, cc, Z⟩ d) = w1 at S0 ⊢
  clear hB
  have HAW := Lib.hid (awake10_any (ktrows F0) (ktcheck F0) (ktheight F0) w1 trivial)
  go_wp2_with fail
  refine HAW.out.mono ?_
  rintro r w2 ⟨rfl, hb⟩
  have S2 := Lib.hid (S0.out.call hb)
  clear HAW hb S0
  have HGR := Lib.hid (great8_v ⟨G, gc, P, pc, AA, cc, Z⟩ d w2 S2.out.2.2.1)
  obtain ⟨-, ⟨d0, d1, d2, d3, d4⟩, -⟩ := S2.out
  dsimp only at d1 d2 d3
  go_wp2_with fail
  refine HGR.out.mono ?_
  rintro r w3 ⟨rfl, hb⟩
  have S3 := Lib.hid (S2.out.call hb)
  clear HGR hb S2 d0 d1 d2 d3 d4
  cases hg : qG d with
  | true =>
    go_wp2_with fail
    go_ret
    exact ⟨rfl, S3.out.1⟩
  | false =>
  have HG := Lib.hid hg
  clear hg
  have HRO := Lib.hid (trows_v ⟨G, gc, P, pc, AA, cc, Z⟩ d k w3 S3.out.2.2.1 HG.out)
  obtain ⟨E, hE⟩ : ∃ E, (rw10s d k).2 = E := ⟨_, rfl⟩
  have HE := Lib.hid hE
  obtain ⟨-, ⟨d0, d1, d2, d3, d4⟩, -⟩ := S3.out
  dsimp only at d1 d2 d3
  go_wp2_with fail
  refine HRO.out.mono ?_
  rintro r w4 ⟨A, c, R, rfl, hrz, hrw, hb⟩
  rw [hE]
  have S4 := Lib.hid ((S3.out.call hb).add (fRw A c R) hrw)
  have HRZ := Lib.hid hrz
  clear HRO hb hrz hrw S3 d0 d1 d2 d3 d4 hE
  by_cases h0 : E = 0
  case neg =>
    have hne : (E != 0) = true := by simpa using h0
    go_wp2_with fail
    go_ret
    exact ⟨rfl, S4.out.1⟩
  subst h0
  obtain ⟨n, h, L, rfl, hns, hdn, hfl, hth, hrl, hI⟩ := rw10s_ok HE.out
  rw [← HRZ.out] at hrl hI
  rw [List.length_map] at hrl
  have hcod := codM_all (flE9_zero hfl).1
  obtain ⟨sn, hsn⟩ : ∃ sn, d.s.length = sn := ⟨_, rfl⟩
  have HSN := Lib.hid hsn
  have hs40 : sn ≤ 40 := by
    have hg := HG.out
    rw [← hsn]
    simp only [qG, Bool.or_eq_false_iff, decide_eq_false_iff_not] at hg
    omega
  have HBQ : Hid (h.a.length ≤ 100 ∧ h.l.length ≤ 100) := Lib.hid (by
    have hg := HG.out
    simp only [qG, Bool.or_eq_false_iff, decide_eq_false_iff_not, List.any_eq_false] at hg
    have hh := hg.2.2.2 _ (List.mem_of_getElem? hdn)
    simp only [qgE, gB, Bool.or_eq_true, decide_eq_true_eq, not_or] at hh
    omega)
  have HDN : Hid (d.s[n]? = some (h, L)) := Lib.hid hdn
  have HNN : Hid (∀ x ∈ L, 0 ≤ x.2.1) := Lib.hid fun x hx => inM_nn (hcod.2.2 x hx)
  rw [hsn] at hns
  have hzl : Z.length = sn := HZL.out.trans hsn
  obtain ⟨ad8, hA8, hat, hok⟩ := S4.out.2.2.2.1.2.2.1.at_ (i := n) (by show n < Z.length; rw [hzl]; exact hns)
  have hme := S4.out.2.2.2.1.zat (i := n) (by show n < Z.length; rw [hzl]; exact hns) (by rw [hsn]; exact hns)
  dsimp only at hA8 hat hok hme
  obtain ⟨zz, hzz⟩ : ∃ zz, Z[n]'(by rw [hzl]; exact hns) = zz := ⟨_, rfl⟩
  rw [hzz] at hat hok hme
  have hdn2 := List.getElem?_eq_getElem (l := d.s) (i := n) (by rw [hsn]; exact hns)
  rw [hdn, hme] at hdn2
  injection hdn2 with hdn2
  obtain ⟨⟨XA, xc, XB, xd, XD, xk, xe⟩, h', L'⟩ := zz
  injection hdn2 with e1 e2
  subst e1 e2
  subst hA8
  obtain ⟨hH, hRi, hxk⟩ := hok
  dsimp only at hH hRi hxk hat
  obtain ⟨mm, hm⟩ : ∃ mm, L.length = mm := ⟨_, rfl⟩
  obtain rfl : mm = xk := by rw [← hm]; exact hxk
  obtain ⟨⟨o0, a0, z0⟩, hx0⟩ : ∃ x, L[0]? = some x := ⟨_, List.getElem?_eq_getElem hcod.1⟩
  obtain ⟨al, hAl, -⟩ := hRi.at9 hx0
  subst hAl
  have HLm := Lib.hid hm
  have HFL := Lib.hid hfl
  have HTH := Lib.hid hth
  have hm1 : 1 ≤ mm := by rw [← hm]; exact hcod.1
  have hm2 : mm ≤ 200 := by rw [← hm]; exact hcod.2.1
  rw [hm] at hrl
  have HRL := Lib.hid hrl
  have HI := Lib.hid hI
  obtain ⟨⟨r0, C0, b0, K0⟩, hz0⟩ : ∃ z, R[0]? = some z := ⟨_, List.getElem?_eq_getElem (by omega)⟩
  have hf := hI.first
  rw [map_rz10 hz0] at hf
  injection hf with e1 e2
  dsimp only at e1 e2
  subst e1 e2
  obtain ⟨adr, hAr, ⟨p00, p01⟩, -⟩ := S4.out.2.1.at_ hz0
  subst hAr
  dsimp only at p00 p01
  simp [go_sem] at p00 p01
  have S5 : Hid (Sx w w4 [fD B ⟨G, gc, P, pc, (some ad8), cc, Z⟩ d, fQm ⟨G, gc, P, pc, (some ad8), cc, Z⟩ d, fRw (some adr) c R, fT (some al) xe L, fH ⟨XA, xc, XB, xd, (some al), mm, xe⟩ h]) := Lib.hid ⟨S4.out.1, S4.out.2.2.1, S4.out.2.2.2.1, S4.out.2.1, hRi, hH, trivial⟩
  have HAT8 : Hid (At8 w4 (ad8.add (n * 8)) ⟨⟨XA, xc, XB, xd, (some al), mm, xe⟩, h, L⟩) := Lib.hid hat
  obtain ⟨g0, g1, g2, g3, g4, g5, g6, g7⟩ := hat
  dsimp only at g7
  have hns2 : n < sn := hns
  have q1 : decide ((n : Int) < 0) = false := by simp
  have q2 : decide (sn ≤ n) = false := by simp; omega
  have q3 : ((mm : Int) == 0) = false := by simp; omega
  have q4 : ((mm : Int) != mm) = false := by simp
  clear hdn hfl hth hcod hsn hzl hme hzz hm hxk hx0 hRi hH hI hz0 S4 hrl
  obtain ⟨-, ⟨d0, d1, d2, d3, d4⟩, -⟩ := S5.out
  dsimp only at d1 d2 d3
  rw [HSN.out] at d3
  rw [HRL.out]
  by_cases hj0 : j < 0
  · go_wp2_with fail
    go_ret
    exact ⟨rfl, S5.out.1⟩
  by_cases hj1 : (mm : Int) - 1 ≤ j
  · have q5 : decide ((mm : Int) - 1 ≤ j) = true := by simpa using hj1
    have q6 : decide (j < 0) = false := by simpa using hj0
    go_wp2_with fail
    go_ret
    exact ⟨rfl, S5.out.1⟩
  obtain ⟨t, rfl⟩ : ∃ t : Nat, j = t := ⟨j.toNat, by omega⟩
  have ht1 : t + 1 < mm := by omega
  have htm : t < mm := by omega
  have q5 : decide ((mm : Int) - 1 ≤ (t : Int)) = false := by simpa using hj1
  have q6 : decide ((t : Int) < 0) = false := by simp
  have q7 : decide (mm ≤ t) = false := by simp; omega
  obtain ⟨⟨rt, Ct, bt, Kt⟩, hzt⟩ : ∃ z, R[t]? = some z := ⟨_, List.getElem?_eq_getElem (by rw [HRL.out]; exact htm)⟩
  obtain ⟨adr2, hA2, ⟨t0, -⟩, -⟩ := S5.out.2.2.2.1.at_ hzt
  injection hA2 with hA2
  subst hA2
  dsimp only at t0
  have HNR : Hid (((rw10s d n).1[t]?.getD z10).1 = rt) := Lib.hid (by rw [← HRZ.out, map_rz10 hzt])
  clear hzt
  cases rt with
  | true =>
    go_wp2_with fail
    go_ret
    exact ⟨rfl, S5.out.1⟩
  | false =>
  go_upto_region 8 with (fail)
  have HCP := Lib.hid (r8copyw ⟨G, gc, P, pc, (some ad8), cc, Z⟩ d w4 S5.out.2.2.1 HG.out)
  clear g0 g1 g2 g3 g4 g5 g6 g7 d0 d1 d2 d3 d4 p00 p01 t0
  obtain ⟨-, ⟨d0, d1, d2, d3, d4⟩, -⟩ := S5.out
  dsimp only at d1 d2 d3
  go_wp2_with fail
  refine HCP.out.mono ?_
  rintro r w6 ⟨T, rfl, hqT, hoT, hb⟩
  obtain ⟨TG, tgc, TP, tpc, TA, tc, TZ⟩ := T
  have HB6 := Lib.hid hb
  have HQT := Lib.hid hqT
  have HOT := Lib.hid hoT
  have hlo := hb.size
  clear hb hqT hoT HCP d0 d1 d2 d3 d4
  go_upto_region 9 with (fail)
  obtain ⟨M, hM⟩ : ∃ M, w6.heap.size = M := ⟨_, rfl⟩
  have HMM := Lib.hid hM
  have S7 : Hid (Sx w (w6.alloc (dcel ⟨TG, tgc, TP, tpc, TA, tc, TZ⟩ d)) [fD M ⟨TG, tgc, TP, tpc, TA, tc, TZ⟩ d, fOw w4.heap.size M ⟨TG, tgc, TP, tpc, TA, tc, TZ⟩ d, fQm ⟨TG, tgc, TP, tpc, TA, tc, TZ⟩ d]) := Lib.hid (by
    have h0 : Sx w w6 [fOw w4.heap.size M ⟨TG, tgc, TP, tpc, TA, tc, TZ⟩ d, fQm ⟨TG, tgc, TP, tpc, TA, tc, TZ⟩ d] := ⟨S5.out.1.trans (HB6.out.mono S5.out.1.size), by rw [← hM]; exact HOT.out, HQT.out, trivial⟩
    have h := h0.mkD ⟨TG, tgc, TP, tpc, TA, tc, TZ⟩ d
    rwa [hM] at h)
  have HB7 : Hid (Below w4.heap.size w4 (w6.alloc (dcel ⟨TG, tgc, TP, tpc, TA, tc, TZ⟩ d))) := Lib.hid (HB6.out.trans (new1.mono HB6.out.size))
  rw [hM] at hlo ⊢
  change Code.wp _ _ _ _ (w6.alloc (dcel ⟨TG, tgc, TP, tpc, TA, tc, TZ⟩ d))
  generalize w6.alloc (dcel ⟨TG, tgc, TP, tpc, TA, tc, TZ⟩ d) = w7 at S7 HB7 ⊢
  clear hM HB6 HQT HOT
  obtain ⟨gM, uM, kM, hTA, hM1, hM2, hMc, -, hkM⟩ := S7.out.2.2.1.2.2.1.cellB (i := n * 8) (by rw [HSN.out]; omega)
  dsimp only at hTA
  subst hTA
  have hzl2 : TZ.length = sn := S7.out.2.2.2.1.zlen.trans HSN.out
  obtain ⟨ad9, hA9, hat9, hok9⟩ := S7.out.2.2.2.1.2.2.1.at_ (i := n) (by show n < TZ.length; rw [hzl2]; exact hns2)
  have hme9 := S7.out.2.2.2.1.zat (i := n) (by show n < TZ.length; rw [hzl2]; exact hns2) (by rw [HSN.out]; exact hns2)
  dsimp only at hA9 hat9 hok9 hme9
  injection hA9 with hA9
  subst hA9
  have hzz9 : TZ[n]? = some (TZ[n]'(by rw [hzl2]; exact hns2)) := List.getElem?_eq_getElem _
  generalize TZ[n]'(by rw [hzl2]; exact hns2) = zt at hat9 hok9 hme9 hzz9
  obtain ⟨⟨UA, uc, UB, ud, UD, uk, ue⟩, h9, L9⟩ := zt
  have hdn9 := List.getElem?_eq_getElem (l := d.s) (i := n) (by rw [HSN.out]; exact hns2)
  have hdn := HDN.out
  rw [hdn, hme9] at hdn9
  injection hdn9 with hdn9
  injection hdn9 with e1 e2
  dsimp only at e1 e2
  subst e1 e2
  obtain ⟨hH9, hRi9, hxk9⟩ := hok9
  dsimp only at hH9 hRi9 hxk9
  obtain rfl : mm = uk := by rw [← hxk9]; exact HLm.out.symm
  have HZZ := Lib.hid hzz9
  obtain ⟨o1, o2, o3⟩ := S7.out.2.2.1.2.2.2 _ (List.mem_of_getElem? hzz9)
  dsimp only at o3
  obtain ⟨gD, uD, kD, hUD, hD1, hD2, hc0, hf0, hkD⟩ := o3.cellB (i := t * 3) (by omega)
  obtain ⟨gD2, uD2, kD2, hUD2, -, -, hc1, hf1, -⟩ := o3.cellB (i := t * 3 + 1) (by omega)
  obtain ⟨gD3, uD3, kD3, hUD3, -, -, hc2, hf2, -⟩ := o3.cellB (i := t * 3 + 2) (by omega)
  subst hUD
  injection hUD2 with hUD2
  injection hUD2 with hUD2
  injection hUD3 with hUD3
  injection hUD3 with hUD3
  subst hUD2 hUD3
  obtain ⟨⟨o, a, z⟩, hx⟩ : ∃ x, L[t]? = some x := ⟨_, List.getElem?_eq_getElem (by rw [HLm.out]; exact htm)⟩
  obtain ⟨al2, hAl2, k1, k2, k3⟩ := hRi9.at9 hx
  injection hAl2 with hAl2
  subst hAl2
  rw [add0] at k1 k2 k3
  dsimp only at k1 k2 k3
  obtain ⟨g0, g1, g2, g3, g4, g5, g6, g7⟩ := hat9
  rw [add0] at g7
  dsimp only at g7
  have ha0 := HNN.out _ (List.mem_of_getElem? hx)
  dsimp only at ha0
  obtain ⟨b, rfl⟩ : ∃ b : Nat, a = b := ⟨a.toNat, by omega⟩
  have HIO : Hid (iO9 L t = o) := Lib.hid (by simp [iO9, hx])
  have HKD : Hid (Bk w7 gD 45 kD) := Lib.hid hkD
  have S8 : Hid (Sx w w7 [fC1 ⟨gD, t * 3, none⟩ (.int .u8 o), fC1 ⟨gD, t * 3 + 1, none⟩ (.int .i64 b), fC1 ⟨gD, t * 3 + 2, none⟩ (.int .i64 z), fC1 ⟨gM, n * 8 + 7, none⟩ (.slice (some ⟨gD, 0, none⟩) mm ue), fD M ⟨TG, tgc, TP, tpc, (some ⟨gM, 0, none⟩), tc, TZ⟩ d, fOw w4.heap.size M ⟨TG, tgc, TP, tpc, (some ⟨gM, 0, none⟩), tc, TZ⟩ d, fQm ⟨TG, tgc, TP, tpc, (some ⟨gM, 0, none⟩), tc, TZ⟩ d]) := Lib.hid ⟨S7.out.1, k1, k2, k3, g7, S7.out.2⟩
  have HFR : Hid (∀ w', Below w7.heap.size w7 w' → w'.frozen? ⟨gD, t * 3, none⟩ = false ∧ w'.frozen? ⟨gD, t * 3 + 1, none⟩ = false ∧ w'.frozen? ⟨gD, t * 3 + 2, none⟩ = false) := Lib.hid fun w' hb => by
    obtain ⟨cs, hcs, -⟩ := HKD.out
    have h := (hb.block gD HKD.out.lt).trans hcs
    exact ⟨frozen_of_row w' gD _ _ _ h, frozen_of_row w' gD _ _ _ h, frozen_of_row w' gD _ _ _ h⟩
  clear hMc hkM hzl2 hme9 hzz9 hdn hH9 hRi9 hxk9 o1 o2 o3 hc0 hc1 hc2 hf0 hf1 hf2 hkD hx ha0 g0 g1 g2 g3 g4 g5 g6 g7 k1 k2 k3 S7
  obtain ⟨-, k1, k2, k3, g7, ⟨d0, d1, d2, d3, d4⟩, -⟩ := S8.out
  dsimp only at k1 k2 k3 g7 d1 d2 d3
  rw [HSN.out] at d3
  go_upto_region 10 with (fail)
  have SI := Lib.hid (S8.out.mkI o b z)
  obtain ⟨D, hD⟩ : ∃ D, w7.heap.size = D := ⟨_, rfl⟩
  have HBI : Hid (Below w7.heap.size w7 (w7.alloc (ic10 o b z))) := Lib.hid new1
  rw [hD] at SI ⊢
  have SI := Lib.hid SI.out
  generalize w7.alloc (ic10 o b z) = w8 at SI HBI ⊢
  clear k1 k2 k3 g7 d0 d1 d2 d3 d4
  obtain ⟨-, ⟨-, i0, i1, i2⟩, -⟩ := SI.out
  have HLE := Lib.hid (leads_any o w8)
  obtain ⟨v, hv⟩ : ∃ v, opL o = v := ⟨_, rfl⟩
  rw [hv] at HLE
  have HV := Lib.hid hv
  clear hv
  go_wp2_with fail
  refine HLE.out.mono ?_
  rintro r w9 ⟨rfl, rfl⟩
  cases v with
  | true =>
    go_wp2_with fail
    go_ret
    exact ⟨rfl, SI.out.1⟩
  | false =>
  by_cases h28 : o = 28
  · subst h28
    go_wp2_with fail
    go_ret
    exact ⟨rfl, SI.out.1⟩
  have e28 : (o == 28) = false := by simpa using h28
  have HNL : Hid (iO9 L t < 26 ∨ 29 < iO9 L t) := Lib.hid (by
    rw [HIO.out]
    have h := HV.out
    simp [opL] at h
    omega)
  go_upto_region 13 with (fail)
  have RD := rd_lit w8 [0, 9, 31, 32, 6, 8] (byt_of (by decide)) (by unfold maxLen; simp)
  obtain ⟨q, hq⟩ : ∃ q, u % 6 = q := ⟨_, rfl⟩
  have hq6 : q < 6 := by omega
  obtain ⟨adO, hAO, cO⟩ := RD.at_ (i := q) (by simpa using hq6)
  injection hAO with hAO
  subst hAO
  rw [add0] at cO
  have hoo : ([0, 9, 31, 32, 6, 8] : List Int)[q]?.getD 0 = oo10 q := rfl
  rw [hoo] at cO
  obtain ⟨OB, hOB⟩ : ∃ OB, w8.heap.size = OB := ⟨_, rfl⟩
  rw [hOB] at cO ⊢
  have HOK := Lib.hid (oo10_ok hq6)
  have S9 : Hid (Sx w (w8.alloc (.cells #[.int .u8 0, .int .u8 9, .int .u8 31, .int .u8 32, .int .u8 6, .int .u8 8] 5)) [fC1 ⟨OB, q, none⟩ (.int .u8 (oo10 q)), fC1 ⟨gD, t * 3, none⟩ (.int .u8 o), fC1 ⟨gD, t * 3 + 1, none⟩ (.int .i64 b), fC1 ⟨gD, t * 3 + 2, none⟩ (.int .i64 z), fC1 ⟨gM, n * 8 + 7, none⟩ (.slice (some ⟨gD, 0, none⟩) mm ue), fD M ⟨TG, tgc, TP, tpc, (some ⟨gM, 0, none⟩), tc, TZ⟩ d, fOw w4.heap.size M ⟨TG, tgc, TP, tpc, (some ⟨gM, 0, none⟩), tc, TZ⟩ d, fQm ⟨TG, tgc, TP, tpc, (some ⟨gM, 0, none⟩), tc, TZ⟩ d]) :=
    Lib.hid ⟨(SI.out.mk1 _).1, cO, (SI.out.mk1 _).2.2⟩
  have HB9 : Hid (Below w7.heap.size w7 (w8.alloc (.cells #[.int .u8 0, .int .u8 9, .int .u8 31, .int .u8 32, .int .u8 6, .int .u8 8] 5))) := Lib.hid (below_on HBI.out new1)
  generalize w8.alloc (.cells #[.int .u8 0, .int .u8 9, .int .u8 31, .int .u8 32, .int .u8 6, .int .u8 8] 5) = w9 at S9 HB9 ⊢
  obtain ⟨oo, hoo2⟩ : ∃ oo, oo10 q = oo := ⟨_, rfl⟩
  rw [hoo2] at S9 HOK
  obtain ⟨-, cO, k1, k2, k3, g7, ⟨d0, d1, d2, d3, d4⟩, -⟩ := S9.out
  dsimp only at cO k1 k2 k3 g7 d1 d2 d3
  rw [HSN.out] at d3
  obtain ⟨f1, f2, f3⟩ := HFR.out w9 HB9.out
  have hq6i : (q : Int) < 6 := by omega
  have hrem : Int.tmod (u : Int) 6 = (q : Int) := by rw [← hq]; exact Int.ofNat_tmod u 6
  clear RD hoo SI HBI i0 i1 i2 hOB hoo2 hq
  go_region
  have HIK : Hid (InOk (oo, 0, 0)) := Lib.hid ⟨HOK.out.1, by dsimp only; omega, by dsimp only; omega⟩
  have HKD9 := Lib.hid (HKD.out.keep HB9.out)
  have hlenZ : TZ.length = d.s.length := S9.out.2.2.2.2.2.2.2.2.1.zlen
  have HLZ := Lib.hid hlenZ
  obtain ⟨y8, hy8⟩ : ∃ y8 : Ma, (⟨TG, tgc, TP, tpc, (some ⟨gM, 0, none⟩), tc, TZ.map (uz10 gD t (oo, 0, 0))⟩ : Ma) = y8 := ⟨_, rfl⟩
  obtain ⟨d8, hd8⟩ : ∃ d8 : Md, (⟨d.g, d.p, (TZ.map (uz10 gD t (oo, 0, 0))).map ze, d.i⟩ : Md) = d8 := ⟨_, rfl⟩
  have HQ8 : Hid (Hq (set3 w9 gD (t * 3) oo 0 0) y8 d8) := Lib.hid (by
    have h := hq_code (t := t) S9.out.2.2.2.2.2.2.2.2.1 S9.out.2.2.2.2.2.2.2.1 HKD9.out HIK.out
    rw [← hy8, ← hd8]
    exact h)
  have HD8 : Hid (Db (set3 w9 gD (t * 3) oo 0 0) M ⟨TG, tgc, TP, tpc, (some ⟨gM, 0, none⟩), tc, TZ⟩ d) := Lib.hid (S9.out.2.2.2.2.2.2.1.apart set3_sp (.inr (by omega)))
  have HRE : Hid (rw10s d8 n = rw10s d n) := Lib.hid (by
    rw [← hd8]
    exact rw10_code S9.out.2.2.2.2.2.2.2.2.1 HDN.out ⟨by rw [HLm.out]; exact ht1, HNL.out, HOK.out.2.1, HOK.out.2.2.1⟩ (by have h := HOK.out.2.2.2; simp [th10, h]) HE.out HNR.out HZZ.out rfl)
  have HG8 : Hid (qG d8 = false) := Lib.hid (by
    rw [← HG.out, ← hd8]
    have hs : d.s = TZ.map ze := S9.out.2.2.2.2.2.2.2.2.1.2.2.2.1.symm
    have hf : (qgE ∘ ze) ∘ uz10 gD t (oo, 0, 0) = qgE ∘ ze := funext fun z => by
      show qgE (ze (uz10 gD t (oo, 0, 0) z)) = qgE (ze z)
      unfold qgE
      rw [show (ze (uz10 gD t (oo, 0, 0) z)).1 = (ze z).1 from rfl, show (ze (uz10 gD t (oo, 0, 0) z)).2.length = (ze z).2.length from uz10_len _ _ _ _]
    simp only [qG, List.length_map, hs, List.any_map, hf])
  have HDV : Hid (dv y8 d8 = dv ⟨TG, tgc, TP, tpc, (some ⟨gM, 0, none⟩), tc, TZ⟩ d) := Lib.hid (by
    rw [← hy8, ← hd8]
    simp [dv, HLZ.out])
  have HB10 : Hid (Below w4.heap.size w4 (set3 w9 gD (t * 3) oo 0 0)) := Lib.hid ((((HB7.out.trans (HB9.out.mono HB7.out.size)).setCell (p := ⟨gD, t * 3, none⟩) hD1 _).setCell (p := ⟨gD, t * 3 + 1, none⟩) hD1 _).setCell (p := ⟨gD, t * 3 + 2, none⟩) hD1 _)
  have S10 : Hid (Sx w (set3 w9 gD (t * 3) oo 0 0).drew [fD M ⟨TG, tgc, TP, tpc, (some ⟨gM, 0, none⟩), tc, TZ⟩ d, fQm y8 d8, fRw (some adr) c R]) := Hsx.drew (Lib.hid ⟨(S5.out.call HB10.out).1, HD8.out, HQ8.out, (S5.out.call HB10.out).2.2.2.1, trivial⟩)
  change Exit.then _ _ _ _ ((set3 w9 gD (t * 3) oo 0 0).drew)
  generalize (set3 w9 gD (t * 3) oo 0 0).drew = w10 at S10 ⊢
  clear hy8 hd8 hlenZ HQ8 HD8 S9 HB9 HB7 S8 cO k1 k2 k3 g7 d0 d1 d2 d3 d4 f1 f2 f3 HFR hq6i hrem q5 q6 q7
  have HTR := Lib.hid (trows_v y8 d8 n w10 S10.out.2.2.1 HG8.out)
  rw [HDV.out, HRE.out] at HTR
  obtain ⟨-, ⟨d0, d1, d2, d3, d4⟩, -⟩ := S10.out
  dsimp only at d1 d2 d3
  go_wp2_with fail
  refine HTR.out.mono ?_
  rintro r w11 ⟨A8, c8, R2, rfl, hrz2, hrw2, hb⟩
  rw [HE.out]
  have HR2 : Hid (R2.map rz = R.map rz) := Lib.hid (by rw [hrz2, HRZ.out])
  have HRL2 : Hid (R2.length = mm) := Lib.hid (by
    have h := congrArg List.length HR2.out
    rw [List.length_map, List.length_map, HRL.out] at h
    exact h)
  obtain ⟨z9, hz9⟩ : ∃ z, R2[0]? = some z := ⟨_, List.getElem?_eq_getElem (by rw [HRL2.out]; omega)⟩
  obtain ⟨adq, hAq, -⟩ := hrw2.at_ hz9
  subst hAq
  have SZ : Hid (Sx w w11 [fRw (some adr) c R, fRw (some adq) c8 R2]) := Lib.hid ⟨(S10.out.call hb).1, (S10.out.call hb).2.2.2.1, hrw2, trivial⟩
  rw [HRL2.out]
  clear HTR hb hrz2 hrw2 hz9 S10 d0 d1 d2 d3 d4
  go_wp2_with fail
  go_loopw [16] (fun iv wq => ∃ i : Nat, i ≤ mm ∧ iv = .int .i64 i ∧ Hid (Sx w wq [fRw (some adr) c R, fRw (some adq) c8 R2])) (fun iv _ => mm - (intOf iv).toNat)
  case atStart => exact ⟨0, by omega, rfl, SZ⟩
  case round =>
    clear SZ
    obtain ⟨i, hi, rfl, SQ⟩ := hrel
    rename World => wr
    by_cases h1 : i < mm
    · obtain ⟨⟨r1, C1, b1, K1⟩, hz1⟩ : ∃ z, R[i]? = some z := ⟨_, List.getElem?_eq_getElem (by rw [HRL.out]; exact h1)⟩
      obtain ⟨⟨r2, C2, b2, K2⟩, hz2⟩ : ∃ z, R2[i]? = some z := ⟨_, List.getElem?_eq_getElem (by rw [HRL2.out]; exact h1)⟩
      have he := map_rz10 hz2
      rw [HR2.out, map_rz10 hz1] at he
      injection he with e1 e2
      dsimp only at e1 e2
      subst e1 e2
      obtain ⟨a1, hA1, ⟨p0, p1⟩, hk1⟩ := SQ.out.2.1.at_ hz1
      injection hA1 with hA1
      subst hA1
      obtain ⟨a2, hA2, ⟨p2, p3⟩, hk2⟩ := SQ.out.2.2.1.at_ hz2
      injection hA2 with hA2
      subst hA2
      dsimp only at p0 p1 p2 p3 hk1 hk2
      have SC : Hid (Sx w wr [fC1 (adr.add (i * 2)) (.bool r1), fC1 ⟨(adr.add (i * 2)).block, (adr.add (i * 2)).off + 1, none⟩ (.slice C1 K1.length b1), fC1 (adq.add (i * 2)) (.bool r1), fC1 ⟨(adq.add (i * 2)).block, (adq.add (i * 2)).off + 1, none⟩ (.slice C2 K1.length b2), fR C1 b1 K1, fR C2 b2 K1, fRw (some adr) c R, fRw (some adq) c8 R2]) := Lib.hid ⟨SQ.out.1, p0, p1, p2, p3, hk1, hk2, SQ.out.2⟩
      have hrr : (r1 != r1) = false := by simp
      clear hz1 hz2 p0 p1 p2 p3 hk1 hk2 SQ
      go_upto_region 20 with (fail)
      refine wp_region_held_drew (S := fun w' => Hid (Sx w w' [fC1 (adr.add (i * 2)) (.bool r1), fC1 ⟨(adr.add (i * 2)).block, (adr.add (i * 2)).off + 1, none⟩ (.slice C1 K1.length b1), fC1 (adq.add (i * 2)) (.bool r1), fC1 ⟨(adq.add (i * 2)).block, (adq.add (i * 2)).off + 1, none⟩ (.slice C2 K1.length b2), fR C1 b1 K1, fR C2 b2 K1, fRw (some adr) c R, fRw (some adq) c8 R2])) (by kernel_rfl) (Hsx.drew SC) (fun hHeld => ?_)
      refine wpAnyH_take (i := 0) (v := ?_) rfl (by kernel_rfl) (by kernel_rfl) (by kernel_rfl) (fun _ _ _ h => h) (Or.inl ⟨by rfl, ?_⟩) (by assumption) ?_
      rotate_left 1
      · intro w _; go_simp; try with_reducible rfl
      try simp only [Act.put, List.getElem_toArray, List.getElem_cons_zero, List.getElem_cons_succ, List.setIfInBounds_toArray, List.set_cons_zero, List.set_cons_succ]
      refine wpAnyH_take (i := 1) (v := ?_) rfl (by kernel_rfl) (by kernel_rfl) (by kernel_rfl) (fun _ _ _ h => h) (Or.inl ⟨by rfl, ?_⟩) (by assumption) ?_
      rotate_left 1
      · intro w _; go_simp; try with_reducible rfl
      try simp only [Act.put, List.getElem_toArray, List.getElem_cons_zero, List.getElem_cons_succ, List.setIfInBounds_toArray, List.set_cons_zero, List.set_cons_succ]
      refine wpAnyH_take (i := 2) (v := ?_) rfl (by kernel_rfl) (by kernel_rfl) (by kernel_rfl) (fun _ _ _ h => h) (Or.inl ⟨by rfl, ?_⟩) (by assumption) ?_
      rotate_left 1
      · intro w _; go_simp; try with_reducible rfl
      try simp only [Act.put, List.getElem_toArray, List.getElem_cons_zero, List.getElem_cons_succ, List.setIfInBounds_toArray, List.set_cons_zero, List.set_cons_succ]
      refine wpAnyH_take (i := 3) (v := ?_) rfl (by kernel_rfl) (by kernel_rfl) (by kernel_rfl) (fun _ _ _ h => h) (Or.inl ⟨by rfl, ?_⟩) (by assumption) ?_
      rotate_left 1
      · intro w _; go_simp; try with_reducible rfl
      try simp only [Act.put, List.getElem_toArray, List.getElem_cons_zero, List.getElem_cons_succ, List.setIfInBounds_toArray, List.set_cons_zero, List.set_cons_succ]
      refine wpAnyH_take (i := 4) (v := ?_) rfl (by kernel_rfl) (by kernel_rfl) (by kernel_rfl) (fun _ _ _ h => h) (Or.inl ⟨by rfl, ?_⟩) (by assumption) ?_
      rotate_left 1
      · intro w hSw; (try dsimp only at hSw); obtain ⟨-, s0, s1, s2, s3, -⟩ := hSw.out; dsimp only at s0 s1 s2 s3; go_simp; try with_reducible rfl
      try simp only [Act.put, List.getElem_toArray, List.getElem_cons_zero, List.getElem_cons_succ, List.setIfInBounds_toArray, List.set_cons_zero, List.set_cons_succ]
      refine wpAnyH_take (i := 5) (v := ?_) rfl (by kernel_rfl) (by kernel_rfl) (by kernel_rfl) (fun _ _ _ h => h) (Or.inl ⟨by rfl, ?_⟩) (by assumption) ?_
      rotate_left 1
      · intro w _; go_simp; try with_reducible rfl
      try simp only [Act.put, List.getElem_toArray, List.getElem_cons_zero, List.getElem_cons_succ, List.setIfInBounds_toArray, List.set_cons_zero, List.set_cons_succ]
      refine wpAnyH_take (i := 6) (v := ?_) rfl (by kernel_rfl) (by kernel_rfl) (by kernel_rfl) (fun _ _ _ h => h) (Or.inl ⟨by rfl, ?_⟩) (by assumption) ?_
      rotate_left 1
      · intro w _; go_simp; try with_reducible rfl
      try simp only [Act.put, List.getElem_toArray, List.getElem_cons_zero, List.getElem_cons_succ, List.setIfInBounds_toArray, List.set_cons_zero, List.set_cons_succ]
      refine wpAnyH_take (i := 7) (v := ?_) rfl (by kernel_rfl) (by kernel_rfl) (by kernel_rfl) (fun _ _ _ h => h) (Or.inl ⟨by rfl, ?_⟩) (by assumption) ?_
      rotate_left 1
      · intro w _; go_simp; try with_reducible rfl
      try simp only [Act.put, List.getElem_toArray, List.getElem_cons_zero, List.getElem_cons_succ, List.setIfInBounds_toArray, List.set_cons_zero, List.set_cons_succ]
      refine wpAnyH_take (i := 8) (v := ?_) rfl (by kernel_rfl) (by kernel_rfl) (by kernel_rfl) (fun _ _ _ h => h) (Or.inl ⟨by rfl, ?_⟩) (by assumption) ?_
      rotate_left 1
      · intro w _; go_simp; try with_reducible rfl
      try simp only [Act.put, List.getElem_toArray, List.getElem_cons_zero, List.getElem_cons_succ, List.setIfInBounds_toArray, List.set_cons_zero, List.set_cons_succ]
      refine wpAnyH_take (i := 9) (v := ?_) rfl (by kernel_rfl) (by kernel_rfl) (by kernel_rfl) (fun _ _ _ h => h) (Or.inl ⟨by rfl, ?_⟩) (by assumption) ?_
      rotate_left 1
      · intro w hSw; (try dsimp only at hSw); obtain ⟨-, s0, s1, s2, s3, -⟩ := hSw.out; dsimp only at s0 s1 s2 s3; go_simp; try with_reducible rfl
      try simp only [Act.put, List.getElem_toArray, List.getElem_cons_zero, List.getElem_cons_succ, List.setIfInBounds_toArray, List.set_cons_zero, List.set_cons_succ]
      refine wpAnyH_take (i := 10) (v := ?_) rfl (by kernel_rfl) (by kernel_rfl) (by kernel_rfl) (fun _ _ _ h => h) (Or.inl ⟨by rfl, ?_⟩) (by assumption) ?_
      rotate_left 1
      · intro w _; go_simp; try with_reducible rfl
      try simp only [Act.put, List.getElem_toArray, List.getElem_cons_zero, List.getElem_cons_succ, List.setIfInBounds_toArray, List.set_cons_zero, List.set_cons_succ]
      refine wpAnyH_take (i := 11) (v := ?_) rfl (by kernel_rfl) (by kernel_rfl) (by kernel_rfl) (fun _ _ _ h => h) (Or.inl ⟨by rfl, ?_⟩) (by assumption) ?_
      rotate_left 1
      · intro w _; go_simp; try with_reducible rfl
      try simp only [Act.put, List.getElem_toArray, List.getElem_cons_zero, List.getElem_cons_succ, List.setIfInBounds_toArray, List.set_cons_zero, List.set_cons_succ]
      refine wpAnyH_take (i := 12) (v := ?_) rfl (by kernel_rfl) (by kernel_rfl) (by kernel_rfl) (fun _ _ _ h => h) (Or.inl ⟨by rfl, ?_⟩) (by assumption) ?_
      rotate_left 1
      · intro w _; go_simp; try with_reducible rfl
      try simp only [Act.put, List.getElem_toArray, List.getElem_cons_zero, List.getElem_cons_succ, List.setIfInBounds_toArray, List.set_cons_zero, List.set_cons_succ]
      refine wpAnyH_take (i := 13) (v := ?_) rfl (by kernel_rfl) (by kernel_rfl) (by kernel_rfl) (fun _ _ _ h => h) (Or.inl ⟨by rfl, ?_⟩) (by assumption) ?_
      rotate_left 1
      · intro w _; go_simp; try with_reducible rfl
      try simp only [Act.put, List.getElem_toArray, List.getElem_cons_zero, List.getElem_cons_succ, List.setIfInBounds_toArray, List.set_cons_zero, List.set_cons_succ]
      refine wpAnyH_take (i := 14) (v := ?_) rfl (by kernel_rfl) (by kernel_rfl) (by kernel_rfl) (fun _ _ _ h => h) (Or.inl ⟨by rfl, ?_⟩) (by assumption) ?_
      rotate_left 1
      · intro w _; go_simp; try with_reducible rfl
      try simp only [Act.put, List.getElem_toArray, List.getElem_cons_zero, List.getElem_cons_succ, List.setIfInBounds_toArray, List.set_cons_zero, List.set_cons_succ]
      refine wpAnyH_take (i := 15) (v := ?_) rfl (by kernel_rfl) (by kernel_rfl) (by kernel_rfl) (fun _ _ _ h => h) (Or.inl ⟨by rfl, ?_⟩) (by assumption) ?_
      rotate_left 1
      · intro w _; go_simp; try with_reducible rfl
      try simp only [Act.put, List.getElem_toArray, List.getElem_cons_zero, List.getElem_cons_succ, List.setIfInBounds_toArray, List.set_cons_zero, List.set_cons_succ]
      refine wpAnyH_take (i := 16) (v := ?_) rfl (by kernel_rfl) (by kernel_rfl) (by kernel_rfl) (fun _ _ _ h => h) (Or.inl ⟨by rfl, ?_⟩) (by assumption) ?_
      rotate_left 1
      · intro w hSw; (try dsimp only at hSw); obtain ⟨-, s0, s1, s2, s3, -⟩ := hSw.out; dsimp only at s0 s1 s2 s3; go_simp; try with_reducible rfl
      try simp only [Act.put, List.getElem_toArray, List.getElem_cons_zero, List.getElem_cons_succ, List.setIfInBounds_toArray, List.set_cons_zero, List.set_cons_succ]
      refine wpAnyH_take (i := 17) (v := ?_) rfl (by kernel_rfl) (by kernel_rfl) (by kernel_rfl) (fun _ _ _ h => h) (Or.inl ⟨by rfl, ?_⟩) (by assumption) ?_
      rotate_left 1
      · intro w _; go_simp; try with_reducible rfl
      try simp only [Act.put, List.getElem_toArray, List.getElem_cons_zero, List.getElem_cons_succ, List.setIfInBounds_toArray, List.set_cons_zero, List.set_cons_succ]
      refine wpAnyH_take (i := 18) (v := ?_) rfl (by kernel_rfl) (by kernel_rfl) (by kernel_rfl) (fun _ _ _ h => h) (Or.inl ⟨by rfl, ?_⟩) (by assumption) ?_
      rotate_left 1
      · intro w _; go_simp; try with_reducible rfl
      try simp only [Act.put, List.getElem_toArray, List.getElem_cons_zero, List.getElem_cons_succ, List.setIfInBounds_toArray, List.set_cons_zero, List.set_cons_succ]
      refine wpAnyH_take (i := 19) (v := ?_) rfl (by kernel_rfl) (by kernel_rfl) (by kernel_rfl) (fun _ _ _ h => h) (Or.inl ⟨by rfl, ?_⟩) (by assumption) ?_
      rotate_left 1
      · intro w _; go_simp; try with_reducible rfl
      try simp only [Act.put, List.getElem_toArray, List.getElem_cons_zero, List.getElem_cons_succ, List.setIfInBounds_toArray, List.set_cons_zero, List.set_cons_succ]
      refine wpAnyH_take (i := 20) (v := ?_) rfl (by kernel_rfl) (by kernel_rfl) (by kernel_rfl) (fun _ _ _ h => h) (Or.inl ⟨by rfl, ?_⟩) (by assumption) ?_
      rotate_left 1
      · intro w _; go_simp; try with_reducible rfl
      try simp only [Act.put, List.getElem_toArray, List.getElem_cons_zero, List.getElem_cons_succ, List.setIfInBounds_toArray, List.set_cons_zero, List.set_cons_succ]
      refine wpAnyH_take (i := 21) (v := ?_) rfl (by kernel_rfl) (by kernel_rfl) (by kernel_rfl) (fun _ _ _ h => h) (Or.inl ⟨by rfl, ?_⟩) (by assumption) ?_
      rotate_left 1
      · intro w hSw; (try dsimp only at hSw); obtain ⟨-, s0, s1, s2, s3, -⟩ := hSw.out; dsimp only at s0 s1 s2 s3; go_simp; try with_reducible rfl
      try simp only [Act.put, List.getElem_toArray, List.getElem_cons_zero, List.getElem_cons_succ, List.setIfInBounds_toArray, List.set_cons_zero, List.set_cons_succ]
      refine wpAnyH_ready (rs := [22]) (by kernel_rfl) (by simp) ?_
      refine AllReadyH.cons rfl (fun K hK => ?_) AllReadyH.nil
      go_simp
      refine (r7same_v C1 C2 b1 b2 K1.length K1.length K1 K1 true _ hHeld.out.2.2.2.2.2.1 hHeld.out.2.2.2.2.2.2.1 rfl rfl (by simp)).mono ?_
      rintro r w9 ⟨rfl, hb⟩
      go_wp2_with fail
      refine hK.out _ _ (Hsx.call hb hHeld) (fun hHeld => ?_)
      clear hK K
      try simp only [Act.put, List.getElem_toArray, List.getElem_cons_zero, List.getElem_cons_succ, List.setIfInBounds_toArray, List.set_cons_zero, List.set_cons_succ]
      refine wpAnyH_take (i := 23) (v := ?_) rfl (by kernel_rfl) (by kernel_rfl) (by kernel_rfl) (fun _ _ _ h => h) (Or.inl ⟨by rfl, ?_⟩) (by assumption) ?_
      rotate_left 1
      · intro w _; go_simp; try with_reducible rfl
      try simp only [Act.put, List.getElem_toArray, List.getElem_cons_zero, List.getElem_cons_succ, List.setIfInBounds_toArray, List.set_cons_zero, List.set_cons_succ]
      refine wpAnyH_take (i := 24) (v := ?_) rfl (by kernel_rfl) (by kernel_rfl) (by kernel_rfl) (fun _ _ _ h => h) (Or.inl ⟨by rfl, ?_⟩) (by assumption) ?_
      rotate_left 1
      · intro w _; go_simp; try with_reducible rfl
      try simp only [Act.put, List.getElem_toArray, List.getElem_cons_zero, List.getElem_cons_succ, List.setIfInBounds_toArray, List.set_cons_zero, List.set_cons_succ]
      refine wpAnyH_done (by kernel_rfl) ?_ _
      have SN : Hid (Sx w w9 [fRw (some adr) c R, fRw (some adq) c8 R2]) := Lib.hid ⟨hHeld.out.1, hHeld.out.2.2.2.2.2.2.2⟩
      clear hHeld
      go_wp2_with fail
      go_roundw
      case rel => exact ⟨i + 1, by omega, by go_num, SN⟩
      case measure => simp [intOf]; omega
    · obtain rfl : mm = i := by omega
      go_wp2_with fail
      go_ret
      exact ⟨rfl, SQ.out.1⟩
end Go.Proofs.Ytplgmdbocmfbcaa
