/-
  Layer 10: the law TypesHeight.
-/
import Derived.Test.YtplgmdbocmfbcaaLz
import Derived.Test.YtplgmdbocmfbcaaLtb
import Derived.Test.YtplgmdbocmfbcaaLm
namespace Go.Proofs.Ytplgmdbocmfbcaa
open Go.RowKit
set_option maxRecDepth 100000
set_option linter.unusedSimpArgs false
set_option linter.unusedVariables false

theorem Rn.pastB {w : World} {LB : Nat} {f : Nat → Bool} {A : Option Addr} {c : Nat} {K : List Int} (h : Rn w A c K) (hb : Ab9 w LB f) (j : Nat) (v : Value) : Rn (w.setCell ⟨LB, j, none⟩ v) A c K := by
  refine ⟨h.1, h.2.1, ?_⟩
  rcases h.2.2 with hn | ⟨ad, ha, hc⟩
  · exact .inl hn
  · refine .inr ⟨ad, ha, fun i x hx => ?_⟩
    have h1 := hc i x hx
    refine (World.cell?_setCell_other _ _ _ _ (fun e => ?_)).trans h1
    rw [← e] at h1
    rw [cell_of_row w LB j _ _ (0, 0) hb] at h1
    simp [fb9] at h1
def F0 : Fct := ⟨fun _ => True, fun _ _ _ _ => trivial⟩
set_option maxHeartbeats 16000000 in
theorem height10_walk (y : Ma) (d : Md) (k : Int) (w : World) (hq : Hq w y d) : Calls Try.prog 6 #[dv y d, .int .i64 k] w fun e w' => e = .returned (.bool true) ∧ Below w.heap.size w w' := by
  have hzb := (zero_of_info Try.infoL9).1
  rw [fb9_zero] at hzb
  obtain ⟨zb, hzb2⟩ : ∃ zb, fb9 (fun _ => false) = zb := ⟨_, rfl⟩
  have HZB := Lib.hid hzb2
  rw [hzb2] at hzb
  clear hzb2
  obtain ⟨G, gc, P, pc, AA, cc, Z⟩ := y
  have S0 := Lib.hid ((((Sx.start w).add (fQm ⟨G, gc, P, pc, AA, cc, Z⟩ d) hq).mkD ⟨G, gc, P, pc, AA, cc, Z⟩ d))
  have HZL := Lib.hid hq.zlen
  obtain ⟨B, hB⟩ : ∃ B, w.heap.size = B := ⟨_, rfl⟩
  have HBB := Lib.hid hB
  rw [hB] at S0
  clear hq
  go_enter Try.func6, Try.ntmps6
  go_upto_region 1 with (fail)
  change Code.wp _ _ _ _ (w.alloc (dcel ⟨G, gc, P, pc, AA, cc, Z⟩ d))
  generalize w.alloc (dcel ⟨G, gc, P, pc, AA, cc, Z⟩ d) = w1 at S0 ⊢
  clear hB
  have HAW := Lib.hid (awake10_any (ktrows F0) (ktcheck F0) (ktheight F0) w1 trivial)
  go_wp2_with fail
  refine HAW.out.mono ?_
  rintro r w2 ⟨rfl, hb⟩
  have S2 := Lib.hid (S0.out.call hb)
  clear HAW hb S0
  have HGR := Lib.hid (great8_v ⟨G, gc, P, pc, AA, cc, Z⟩ d w2 S2.out.2.2.1)
  obtain ⟨-, ⟨d0, d1, d2, d3, d4⟩, -⟩ := S2.out
  dsimp only at d1 d2 d3
  go_wp2_with fail
  refine HGR.out.mono ?_
  rintro r w3 ⟨rfl, hb⟩
  have S3 := Lib.hid (S2.out.call hb)
  clear HGR hb S2 d0 d1 d2 d3 d4
  cases hg : qG d with
  | true =>
    go_wp2_with fail
    go_ret
    exact ⟨rfl, S3.out.1⟩
  | false =>
  have HG := Lib.hid hg
  clear hg
  have HRO := Lib.hid (trows_v ⟨G, gc, P, pc, AA, cc, Z⟩ d k w3 S3.out.2.2.1 HG.out)
  obtain ⟨E, hE⟩ : ∃ E, (rw10s d k).2 = E := ⟨_, rfl⟩
  have HE := Lib.hid hE
  obtain ⟨-, ⟨d0, d1, d2, d3, d4⟩, -⟩ := S3.out
  dsimp only at d1 d2 d3
  go_wp2_with fail
  refine HRO.out.mono ?_
  rintro r w4 ⟨A, c, R, rfl, hrz, hrw, hb⟩
  rw [hE]
  have S4 := Lib.hid ((S3.out.call hb).add (fRw A c R) hrw)
  have HRZ := Lib.hid hrz
  clear HRO hb hrz hrw S3 d0 d1 d2 d3 d4 hE
  by_cases h0 : E = 0
  case neg =>
    have hne : (E != 0) = true := by simpa using h0
    have hn0 := rw10s_no (by rw [HE.out]; exact h0)
    have hR : R = [] := by
      have h := HRZ.out
      rw [hn0] at h
      exact List.map_eq_nil_iff.1 h
    subst hR
    have HHT := Lib.hid (ktheight F0 A c 0 [] w4 trivial S4.out.2.1 rfl (by omega) (fun z hz => by cases hz))
    have e0 : (hg10 (([] : List Rx).map rz) : Int) = 0 := rfl
    rw [e0] at HHT
    clear e0
    go_wp2_with fail
    refine HHT.out.mono ?_
    rintro r w5 ⟨rfl, hb⟩
    have HB5 := Lib.hid (S4.out.call hb).1
    clear hb
    go_wp2_with fail
    go_ret
    exact ⟨rfl, HB5.out⟩
  subst h0
  obtain ⟨n, h, L, rfl, hns, hdn, hfl, hth, hrl, hI⟩ := rw10s_ok HE.out
  rw [← HRZ.out] at hrl hI
  rw [List.length_map] at hrl
  have hcod := codM_all (flE9_zero hfl).1
  obtain ⟨sn, hsn⟩ : ∃ sn, d.s.length = sn := ⟨_, rfl⟩
  have HSN := Lib.hid hsn
  have hs40 : sn ≤ 40 := by
    have hg := HG.out
    rw [← hsn]
    simp only [qG, Bool.or_eq_false_iff, decide_eq_false_iff_not] at hg
    omega
  rw [hsn] at hns
  have hzl : Z.length = sn := HZL.out.trans hsn
  obtain ⟨ad8, hA8, hat, hok⟩ := S4.out.2.2.2.1.2.2.1.at_ (i := n) (by show n < Z.length; rw [hzl]; exact hns)
  have hme := S4.out.2.2.2.1.zat (i := n) (by show n < Z.length; rw [hzl]; exact hns) (by rw [hsn]; exact hns)
  dsimp only at hA8 hat hok hme
  obtain ⟨zz, hzz⟩ : ∃ zz, Z[n]'(by rw [hzl]; exact hns) = zz := ⟨_, rfl⟩
  rw [hzz] at hat hok hme
  have hdn2 := List.getElem?_eq_getElem (l := d.s) (i := n) (by rw [hsn]; exact hns)
  rw [hdn, hme] at hdn2
  injection hdn2 with hdn2
  obtain ⟨⟨XA, xc, XB, xd, XD, xk, xe⟩, h', L'⟩ := zz
  injection hdn2 with e1 e2
  subst e1 e2
  subst hA8
  obtain ⟨hH, hRi, hxk⟩ := hok
  dsimp only at hH hRi hxk hat
  obtain ⟨mm, hm⟩ : ∃ mm, L.length = mm := ⟨_, rfl⟩
  obtain rfl : mm = xk := by rw [← hm]; exact hxk
  obtain ⟨⟨o0, a0, z0⟩, hx0⟩ : ∃ x, L[0]? = some x := ⟨_, List.getElem?_eq_getElem hcod.1⟩
  obtain ⟨al, hAl, -⟩ := hRi.at9 hx0
  subst hAl
  have HLm := Lib.hid hm
  have HFL := Lib.hid hfl
  have HTH := Lib.hid hth
  have hm1 : 1 ≤ mm := by rw [← hm]; exact hcod.1
  have hm2 : mm ≤ 200 := by rw [← hm]; exact hcod.2.1
  rw [hm] at hrl
  have HRL := Lib.hid hrl
  have HI := Lib.hid hI
  obtain ⟨⟨r0, C0, b0, K0⟩, hz0⟩ : ∃ z, R[0]? = some z := ⟨_, List.getElem?_eq_getElem (by omega)⟩
  have hf := hI.first
  rw [map_rz10 hz0] at hf
  injection hf with e1 e2
  dsimp only at e1 e2
  subst e1 e2
  obtain ⟨adr, hAr, ⟨p00, p01⟩, -⟩ := S4.out.2.1.at_ hz0
  subst hAr
  dsimp only at p00 p01
  simp [go_sem] at p00 p01
  have S5 : Hid (Sx w w4 [fD B ⟨G, gc, P, pc, (some ad8), cc, Z⟩ d, fQm ⟨G, gc, P, pc, (some ad8), cc, Z⟩ d, fRw (some adr) c R, fT (some al) xe L, fH ⟨XA, xc, XB, xd, (some al), mm, xe⟩ h]) := Lib.hid ⟨S4.out.1, S4.out.2.2.1, S4.out.2.2.2.1, S4.out.2.1, hRi, hH, trivial⟩
  have HAT8 : Hid (At8 w4 (ad8.add (n * 8)) ⟨⟨XA, xc, XB, xd, (some al), mm, xe⟩, h, L⟩) := Lib.hid hat
  obtain ⟨g0, g1, g2, g3, g4, g5, g6, g7⟩ := hat
  dsimp only at g7
  have hns2 : n < sn := hns
  have q1 : decide ((n : Int) < 0) = false := by simp
  have q2 : decide (sn ≤ n) = false := by simp; omega
  have q3 : ((mm : Int) == 0) = false := by simp; omega
  have q4 : ((mm : Int) != mm) = false := by simp
  clear hdn hfl hth hcod hsn hzl hme hzz hm hxk hx0 hRi hH hI hz0 S4 hrl
  obtain ⟨-, ⟨d0, d1, d2, d3, d4⟩, -⟩ := S5.out
  dsimp only at d1 d2 d3
  rw [HSN.out] at d3
  rw [HRL.out]
  go_upto_region 11 with (fail)
  have S6 : Hid (Sx w w4 [fC1 ⟨(ad8.add (n * 8)).block, (ad8.add (n * 8)).off + 7, none⟩ (.slice (some al) mm xe), fD B ⟨G, gc, P, pc, (some ad8), cc, Z⟩ d, fRw (some adr) c R, fT (some al) xe L]) := Lib.hid ⟨S5.out.1, g7, S5.out.2.1, S5.out.2.2.2.1, S5.out.2.2.2.2.1, trivial⟩
  clear g0 g1 g2 g3 g4 g5 g6 g7 d0 d1 d2 d3 d4 p00 p01 S5 q1 q2 q3 q4 HAT8
  obtain ⟨LB, hLB⟩ : ∃ LB, w4.heap.size = LB := ⟨_, rfl⟩
  have HLB := Lib.hid hLB
  have HA0 : Hid (Ab9 (w4.alloc (.cells zb 57)) LB (ld10 L (R.map rz) 0)) := Lib.hid (by rw [ld10_zero, ← HZB.out, ← hLB]; exact Ab9.new w4 _)
  have HB0 : Hid (Below w4.heap.size w4 (w4.alloc (.cells zb 57))) := Lib.hid new1
  go_upto_region 12 with (fail)
  generalize w4.alloc (.cells zb 57) = w5 at HA0 HB0 ⊢
  clear hLB hzb
  go_wp2_with fail
  go_loopw [7, 9] (fun mv pv wq => ∃ p v : Nat, p ≤ mm ∧ v ≤ 1000 ∧ pv = .int .i64 p ∧ mv = .int .i64 v ∧ Hid (v = hg10 ((R.map rz).take p)) ∧ Hid (Ab9 wq LB (ld10 L (R.map rz) p)) ∧ Hid (Below w4.heap.size w4 wq)) (fun _ pv _ => mm - (intOf pv).toNat)
  case atStart => exact ⟨0, 0, by omega, by omega, rfl, rfl, Lib.hid rfl, HA0, HB0⟩
  case round =>
    clear HA0 HB0
    obtain ⟨p, v, hp, hv9, rfl, rfl, HV, HA, HB⟩ := hrel
    rename World => wr
    by_cases h1 : p < mm
    · obtain ⟨⟨r, C, b, K⟩, hz⟩ : ∃ z, R[p]? = some z := ⟨_, List.getElem?_eq_getElem (by rw [HRL.out]; exact h1)⟩
      have SQ := Lib.hid (S6.out.call HB.out)
      have HZP : Hid ((R.map rz)[p]?.getD z10 = (r, K)) := Lib.hid (map_rz10 hz)
      obtain ⟨kn, hkn⟩ : ∃ kn, K.length = kn := ⟨_, rfl⟩
      have HV2 : Hid (hg10 ((R.map rz).take (p + 1)) = max v kn) := Lib.hid (by rw [hg10_succ (z := (r, K)) (by rw [List.getElem?_map, hz]; rfl), ← HV.out, hkn])
      have hk4 : kn ≤ 400 := by
        have h := in10s_len HI.out p
        rw [HZP.out] at h
        dsimp only at h
        omega
      have HKN := Lib.hid hkn
      obtain ⟨adr2, hA2, ⟨y0, y1⟩, -⟩ := SQ.out.2.2.2.1.at_ hz
      injection hA2 with hA2
      subst hA2
      dsimp only at y0 y1
      rw [hkn] at y1
      clear hz hkn
      cases r with
      | false =>
        have hk0 : kn = 0 := by
          have h := HI.out.none_ p (by rw [HZP.out])
          rw [HZP.out] at h
          injection h with h1 h2
          rw [← HKN.out, h2]
          rfl
        subst hk0
        have HV3 : Hid (v = hg10 ((R.map rz).take (p + 1))) := Lib.hid (by rw [HV2.out]; omega)
        have HA3 : Hid (Ab9 wr LB (ld10 L (R.map rz) (p + 1))) := Lib.hid (by rw [ld10_skip (by rw [HZP.out])]; exact HA.out)
        go_wp2_with fail
        go_roundw
        case rel => exact ⟨p + 1, v, by omega, hv9, by go_num, rfl, HV3, HA3, HB⟩
        case measure => simp [intOf]; omega
      | true =>
        have HPR : Hid (((R.map rz)[p]?.getD z10).1 = true) := Lib.hid (by rw [HZP.out])
        obtain ⟨lb, hlb⟩ : ∃ lb, ld10 L (R.map rz) p p = lb := ⟨_, rfl⟩
        have HLBV : Hid (0 < p → lb = true) := Lib.hid fun h => by rw [← hlb]; exact ld10_of HI.out h HPR.out
        have c8 : wr.cell? ⟨LB, p, none⟩ = some (.bool lb) := by rw [HA.out.cell (by omega), hlb]
        clear hlb
        have hp300 : (p : Int) < 300 := by omega
        obtain ⟨g7, ⟨d0, d1, d2, d3, d4⟩, -⟩ := SQ.out.2
        dsimp only at g7 d1 d2 d3
        rw [HSN.out] at d3
        have HWY := Lib.hid (fways_v (some al) xe mm L p wr SQ.out.2.2.2.2.1 HLm.out (by omega))
        have HF9 : Hid (flW9 L (p : Int) = (wy9 L p, 0)) := Lib.hid (by rw [flW9, if_pos HFL.out, if_neg (by rw [HLm.out]; omega), Int.toNat_natCast])
        rw [HF9.out] at HWY
        have HAH := Lib.hid (ahead9 HFL.out (p := p) (by rw [HLm.out]; exact h1))
        obtain ⟨W, hW⟩ : ∃ W, wy9 L p = W := ⟨_, rfl⟩
        rw [hW] at HWY HAH
        have HAH := Lib.hid HAH.out
        have HWW := Lib.hid hW
        dsimp only at HWY
        obtain ⟨kw, hkw⟩ : ∃ kw, W.length = kw := ⟨_, rfl⟩
        rw [hkw] at HWY
        have hkw2 : kw ≤ 2 := by rw [← hkw]; exact HAH.out.1
        have HKW := Lib.hid hkw
        have hns3 : n < sn := hns2
        clear hW hkw
        by_cases hp0 : p = 0
        · have hp1 : ¬ (0 : Int) < p := by omega
          clear hp0
          by_cases hvk : v < kn
          · have HV3 : Hid (kn = hg10 ((R.map rz).take (p + 1))) := Lib.hid (by rw [HV2.out]; omega)
            go_wp2_with fail
            refine HWY.out.mono ?_
            rintro r w8 ⟨AW, cW, rfl, ho, hb⟩
            have HRN8 : Hid (Rn w8 AW cW W) := Lib.hid (Rn.of_own ho).1
            have HA8 : Hid (Ab9 w8 LB (lq10 L (R.map rz) p 0)) := Lib.hid (by rw [lq10_zero]; exact HA.out.keep hb)
            have HB8 := Lib.hid (below_on HB.out hb)
            clear ho hb HWY HA HB y0 y1 c8 g7 d0 d1 d2 d3 d4 SQ
            go_wp2_with fail
            go_loopw [12] (fun iv wq => ∃ q : Nat, q ≤ kw ∧ iv = .int .i64 q ∧ Hid (Ab9 wq LB (lq10 L (R.map rz) p q)) ∧ Hid (Rn wq AW cW W) ∧ Hid (Below w4.heap.size w4 wq)) (fun iv _ => kw - (intOf iv).toNat)
            case atStart => exact ⟨0, by omega, rfl, HA8, HRN8, HB8⟩
            case round =>
              clear HA8 HRN8 HB8
              obtain ⟨q, hq, rfl, HA, HRN, HB⟩ := hrel
              rename World => wi
              by_cases h4 : q < kw
              · obtain ⟨x, hx⟩ : ∃ x, W[q]? = some x := ⟨_, List.getElem?_eq_getElem (by rw [HKW.out]; exact h4)⟩
                obtain ⟨⟨t, rfl, htm, -⟩, -⟩ := HAH.out.2.2 q x hx
                rw [HLm.out] at htm
                obtain ⟨aw, hAW, yw⟩ := HRN.out.at_ hx
                subst hAW
                have HXT : Hid ((wy9 L p)[q]? = some (t : Int)) := Lib.hid (by rw [HWW.out]; exact hx)
                have HX := Lib.hid hx
                obtain ⟨⟨rt, Ct, bt, Kt⟩, hzt⟩ : ∃ z, R[t]? = some z := ⟨_, List.getElem?_eq_getElem (by rw [HRL.out]; exact htm)⟩
                have HRT : Hid (rt = true) := Lib.hid (by
                  obtain ⟨nx, -, hs⟩ := HI.out.step p (by rw [HLm.out]; omega) HPR.out
                  have h := hs (t : Int) (by rw [HWW.out]; exact List.mem_of_getElem? hx)
                  rw [Int.toNat_natCast, map_rz10 hzt] at h
                  injection h)
                obtain rfl := HRT.out
                have HZT := Lib.hid hzt
                clear hx hzt
                obtain ⟨fl, hfl⟩ : ∃ fl, lq10 L (R.map rz) p q t = fl := ⟨_, rfl⟩
                have c9 : wi.cell? ⟨LB, t, none⟩ = some (.bool fl) := by rw [HA.out.cell (by omega), hfl]
                have f9 : wi.frozen? ⟨LB, t, none⟩ = false := HA.out.froz t
                have HA2 : Hid (Ab9 (wi.setCell ⟨LB, t, none⟩ (.bool true)) LB (lq10 L (R.map rz) p (q + 1))) := Lib.hid (by rw [lq10_succ HXT.out]; exact HA.out.put t)
                have HRN2 : Hid (Rn (wi.setCell ⟨LB, t, none⟩ (.bool true)) (some aw) cW W) := Lib.hid (HRN.out.pastB HA.out _ _)
                have HB2 : Hid (Below w4.heap.size w4 (wi.setCell ⟨LB, t, none⟩ (.bool true))) := Lib.hid (HB.out.setCell (p := ⟨LB, t, none⟩) (by rw [HLB.out]; exact Nat.le_refl _) _)
                have ht300 : (t : Int) < 300 := by omega
                clear hfl
                go_upto_region 31 with (fail)
                clear yw c9 f9
                generalize wi.setCell ⟨LB, t, none⟩ (.bool true) = wj at HA2 HRN2 HB2 ⊢
                obtain ⟨aw2, hAW2, yw⟩ := HRN2.out.at_ HX.out
                injection hAW2 with hAW2
                subst hAW2
                obtain ⟨adr2, hA2, ⟨t0, t1⟩, -⟩ := (S6.out.call HB2.out).2.2.2.1.at_ HZT.out
                injection hA2 with hA2
                subst hA2
                dsimp only at t0 t1
                go_wp2_with fail
                go_roundw
                case rel => exact ⟨q + 1, by omega, by go_num, HA2, HRN2, HB2⟩
                case measure => simp [intOf]; omega
              · obtain rfl : kw = q := by omega
                have HA3 : Hid (Ab9 wi LB (ld10 L (R.map rz) (p + 1))) := Lib.hid (by rw [← lq10_all HPR.out, HWW.out, HKW.out]; exact HA.out)
                go_wp2_with fail
                go_roundw
                case rel => exact ⟨p + 1, kn, by omega, by omega, by go_num, rfl, HV3, HA3, HB⟩
                case measure => simp [intOf]; omega
          · have HV3 : Hid (v = hg10 ((R.map rz).take (p + 1))) := Lib.hid (by rw [HV2.out]; omega)
            go_wp2_with fail
            refine HWY.out.mono ?_
            rintro r w8 ⟨AW, cW, rfl, ho, hb⟩
            have HRN8 : Hid (Rn w8 AW cW W) := Lib.hid (Rn.of_own ho).1
            have HA8 : Hid (Ab9 w8 LB (lq10 L (R.map rz) p 0)) := Lib.hid (by rw [lq10_zero]; exact HA.out.keep hb)
            have HB8 := Lib.hid (below_on HB.out hb)
            clear ho hb HWY HA HB y0 y1 c8 g7 d0 d1 d2 d3 d4 SQ
            go_wp2_with fail
            go_loopw [12] (fun iv wq => ∃ q : Nat, q ≤ kw ∧ iv = .int .i64 q ∧ Hid (Ab9 wq LB (lq10 L (R.map rz) p q)) ∧ Hid (Rn wq AW cW W) ∧ Hid (Below w4.heap.size w4 wq)) (fun iv _ => kw - (intOf iv).toNat)
            case atStart => exact ⟨0, by omega, rfl, HA8, HRN8, HB8⟩
            case round =>
              clear HA8 HRN8 HB8
              obtain ⟨q, hq, rfl, HA, HRN, HB⟩ := hrel
              rename World => wi
              by_cases h4 : q < kw
              · obtain ⟨x, hx⟩ : ∃ x, W[q]? = some x := ⟨_, List.getElem?_eq_getElem (by rw [HKW.out]; exact h4)⟩
                obtain ⟨⟨t, rfl, htm, -⟩, -⟩ := HAH.out.2.2 q x hx
                rw [HLm.out] at htm
                obtain ⟨aw, hAW, yw⟩ := HRN.out.at_ hx
                subst hAW
                have HXT : Hid ((wy9 L p)[q]? = some (t : Int)) := Lib.hid (by rw [HWW.out]; exact hx)
                have HX := Lib.hid hx
                obtain ⟨⟨rt, Ct, bt, Kt⟩, hzt⟩ : ∃ z, R[t]? = some z := ⟨_, List.getElem?_eq_getElem (by rw [HRL.out]; exact htm)⟩
                have HRT : Hid (rt = true) := Lib.hid (by
                  obtain ⟨nx, -, hs⟩ := HI.out.step p (by rw [HLm.out]; omega) HPR.out
                  have h := hs (t : Int) (by rw [HWW.out]; exact List.mem_of_getElem? hx)
                  rw [Int.toNat_natCast, map_rz10 hzt] at h
                  injection h)
                obtain rfl := HRT.out
                have HZT := Lib.hid hzt
                clear hx hzt
                obtain ⟨fl, hfl⟩ : ∃ fl, lq10 L (R.map rz) p q t = fl := ⟨_, rfl⟩
                have c9 : wi.cell? ⟨LB, t, none⟩ = some (.bool fl) := by rw [HA.out.cell (by omega), hfl]
                have f9 : wi.frozen? ⟨LB, t, none⟩ = false := HA.out.froz t
                have HA2 : Hid (Ab9 (wi.setCell ⟨LB, t, none⟩ (.bool true)) LB (lq10 L (R.map rz) p (q + 1))) := Lib.hid (by rw [lq10_succ HXT.out]; exact HA.out.put t)
                have HRN2 : Hid (Rn (wi.setCell ⟨LB, t, none⟩ (.bool true)) (some aw) cW W) := Lib.hid (HRN.out.pastB HA.out _ _)
                have HB2 : Hid (Below w4.heap.size w4 (wi.setCell ⟨LB, t, none⟩ (.bool true))) := Lib.hid (HB.out.setCell (p := ⟨LB, t, none⟩) (by rw [HLB.out]; exact Nat.le_refl _) _)
                have ht300 : (t : Int) < 300 := by omega
                clear hfl
                go_upto_region 31 with (fail)
                clear yw c9 f9
                generalize wi.setCell ⟨LB, t, none⟩ (.bool true) = wj at HA2 HRN2 HB2 ⊢
                obtain ⟨aw2, hAW2, yw⟩ := HRN2.out.at_ HX.out
                injection hAW2 with hAW2
                subst hAW2
                obtain ⟨adr2, hA2, ⟨t0, t1⟩, -⟩ := (S6.out.call HB2.out).2.2.2.1.at_ HZT.out
                injection hA2 with hA2
                subst hA2
                dsimp only at t0 t1
                go_wp2_with fail
                go_roundw
                case rel => exact ⟨q + 1, by omega, by go_num, HA2, HRN2, HB2⟩
                case measure => simp [intOf]; omega
              · obtain rfl : kw = q := by omega
                have HA3 : Hid (Ab9 wi LB (ld10 L (R.map rz) (p + 1))) := Lib.hid (by rw [← lq10_all HPR.out, HWW.out, HKW.out]; exact HA.out)
                go_wp2_with fail
                go_roundw
                case rel => exact ⟨p + 1, v, by omega, by omega, by go_num, rfl, HV3, HA3, HB⟩
                case measure => simp [intOf]; omega
        · have hp1 : (0 : Int) < p := by omega
          obtain rfl : lb = true := HLBV.out (by omega)
          by_cases hvk : v < kn
          · have HV3 : Hid (kn = hg10 ((R.map rz).take (p + 1))) := Lib.hid (by rw [HV2.out]; omega)
            go_wp2_with fail
            refine HWY.out.mono ?_
            rintro r w8 ⟨AW, cW, rfl, ho, hb⟩
            have HRN8 : Hid (Rn w8 AW cW W) := Lib.hid (Rn.of_own ho).1
            have HA8 : Hid (Ab9 w8 LB (lq10 L (R.map rz) p 0)) := Lib.hid (by rw [lq10_zero]; exact HA.out.keep hb)
            have HB8 := Lib.hid (below_on HB.out hb)
            clear ho hb HWY HA HB y0 y1 c8 g7 d0 d1 d2 d3 d4 SQ
            go_wp2_with fail
            go_loopw [12] (fun iv wq => ∃ q : Nat, q ≤ kw ∧ iv = .int .i64 q ∧ Hid (Ab9 wq LB (lq10 L (R.map rz) p q)) ∧ Hid (Rn wq AW cW W) ∧ Hid (Below w4.heap.size w4 wq)) (fun iv _ => kw - (intOf iv).toNat)
            case atStart => exact ⟨0, by omega, rfl, HA8, HRN8, HB8⟩
            case round =>
              clear HA8 HRN8 HB8
              obtain ⟨q, hq, rfl, HA, HRN, HB⟩ := hrel
              rename World => wi
              by_cases h4 : q < kw
              · obtain ⟨x, hx⟩ : ∃ x, W[q]? = some x := ⟨_, List.getElem?_eq_getElem (by rw [HKW.out]; exact h4)⟩
                obtain ⟨⟨t, rfl, htm, -⟩, -⟩ := HAH.out.2.2 q x hx
                rw [HLm.out] at htm
                obtain ⟨aw, hAW, yw⟩ := HRN.out.at_ hx
                subst hAW
                have HXT : Hid ((wy9 L p)[q]? = some (t : Int)) := Lib.hid (by rw [HWW.out]; exact hx)
                have HX := Lib.hid hx
                obtain ⟨⟨rt, Ct, bt, Kt⟩, hzt⟩ : ∃ z, R[t]? = some z := ⟨_, List.getElem?_eq_getElem (by rw [HRL.out]; exact htm)⟩
                have HRT : Hid (rt = true) := Lib.hid (by
                  obtain ⟨nx, -, hs⟩ := HI.out.step p (by rw [HLm.out]; omega) HPR.out
                  have h := hs (t : Int) (by rw [HWW.out]; exact List.mem_of_getElem? hx)
                  rw [Int.toNat_natCast, map_rz10 hzt] at h
                  injection h)
                obtain rfl := HRT.out
                have HZT := Lib.hid hzt
                clear hx hzt
                obtain ⟨fl, hfl⟩ : ∃ fl, lq10 L (R.map rz) p q t = fl := ⟨_, rfl⟩
                have c9 : wi.cell? ⟨LB, t, none⟩ = some (.bool fl) := by rw [HA.out.cell (by omega), hfl]
                have f9 : wi.frozen? ⟨LB, t, none⟩ = false := HA.out.froz t
                have HA2 : Hid (Ab9 (wi.setCell ⟨LB, t, none⟩ (.bool true)) LB (lq10 L (R.map rz) p (q + 1))) := Lib.hid (by rw [lq10_succ HXT.out]; exact HA.out.put t)
                have HRN2 : Hid (Rn (wi.setCell ⟨LB, t, none⟩ (.bool true)) (some aw) cW W) := Lib.hid (HRN.out.pastB HA.out _ _)
                have HB2 : Hid (Below w4.heap.size w4 (wi.setCell ⟨LB, t, none⟩ (.bool true))) := Lib.hid (HB.out.setCell (p := ⟨LB, t, none⟩) (by rw [HLB.out]; exact Nat.le_refl _) _)
                have ht300 : (t : Int) < 300 := by omega
                clear hfl
                go_upto_region 31 with (fail)
                clear yw c9 f9
                generalize wi.setCell ⟨LB, t, none⟩ (.bool true) = wj at HA2 HRN2 HB2 ⊢
                obtain ⟨aw2, hAW2, yw⟩ := HRN2.out.at_ HX.out
                injection hAW2 with hAW2
                subst hAW2
                obtain ⟨adr2, hA2, ⟨t0, t1⟩, -⟩ := (S6.out.call HB2.out).2.2.2.1.at_ HZT.out
                injection hA2 with hA2
                subst hA2
                dsimp only at t0 t1
                go_wp2_with fail
                go_roundw
                case rel => exact ⟨q + 1, by omega, by go_num, HA2, HRN2, HB2⟩
                case measure => simp [intOf]; omega
              · obtain rfl : kw = q := by omega
                have HA3 : Hid (Ab9 wi LB (ld10 L (R.map rz) (p + 1))) := Lib.hid (by rw [← lq10_all HPR.out, HWW.out, HKW.out]; exact HA.out)
                go_wp2_with fail
                go_roundw
                case rel => exact ⟨p + 1, kn, by omega, by omega, by go_num, rfl, HV3, HA3, HB⟩
                case measure => simp [intOf]; omega
          · have HV3 : Hid (v = hg10 ((R.map rz).take (p + 1))) := Lib.hid (by rw [HV2.out]; omega)
            go_wp2_with fail
            refine HWY.out.mono ?_
            rintro r w8 ⟨AW, cW, rfl, ho, hb⟩
            have HRN8 : Hid (Rn w8 AW cW W) := Lib.hid (Rn.of_own ho).1
            have HA8 : Hid (Ab9 w8 LB (lq10 L (R.map rz) p 0)) := Lib.hid (by rw [lq10_zero]; exact HA.out.keep hb)
            have HB8 := Lib.hid (below_on HB.out hb)
            clear ho hb HWY HA HB y0 y1 c8 g7 d0 d1 d2 d3 d4 SQ
            go_wp2_with fail
            go_loopw [12] (fun iv wq => ∃ q : Nat, q ≤ kw ∧ iv = .int .i64 q ∧ Hid (Ab9 wq LB (lq10 L (R.map rz) p q)) ∧ Hid (Rn wq AW cW W) ∧ Hid (Below w4.heap.size w4 wq)) (fun iv _ => kw - (intOf iv).toNat)
            case atStart => exact ⟨0, by omega, rfl, HA8, HRN8, HB8⟩
            case round =>
              clear HA8 HRN8 HB8
              obtain ⟨q, hq, rfl, HA, HRN, HB⟩ := hrel
              rename World => wi
              by_cases h4 : q < kw
              · obtain ⟨x, hx⟩ : ∃ x, W[q]? = some x := ⟨_, List.getElem?_eq_getElem (by rw [HKW.out]; exact h4)⟩
                obtain ⟨⟨t, rfl, htm, -⟩, -⟩ := HAH.out.2.2 q x hx
                rw [HLm.out] at htm
                obtain ⟨aw, hAW, yw⟩ := HRN.out.at_ hx
                subst hAW
                have HXT : Hid ((wy9 L p)[q]? = some (t : Int)) := Lib.hid (by rw [HWW.out]; exact hx)
                have HX := Lib.hid hx
                obtain ⟨⟨rt, Ct, bt, Kt⟩, hzt⟩ : ∃ z, R[t]? = some z := ⟨_, List.getElem?_eq_getElem (by rw [HRL.out]; exact htm)⟩
                have HRT : Hid (rt = true) := Lib.hid (by
                  obtain ⟨nx, -, hs⟩ := HI.out.step p (by rw [HLm.out]; omega) HPR.out
                  have h := hs (t : Int) (by rw [HWW.out]; exact List.mem_of_getElem? hx)
                  rw [Int.toNat_natCast, map_rz10 hzt] at h
                  injection h)
                obtain rfl := HRT.out
                have HZT := Lib.hid hzt
                clear hx hzt
                obtain ⟨fl, hfl⟩ : ∃ fl, lq10 L (R.map rz) p q t = fl := ⟨_, rfl⟩
                have c9 : wi.cell? ⟨LB, t, none⟩ = some (.bool fl) := by rw [HA.out.cell (by omega), hfl]
                have f9 : wi.frozen? ⟨LB, t, none⟩ = false := HA.out.froz t
                have HA2 : Hid (Ab9 (wi.setCell ⟨LB, t, none⟩ (.bool true)) LB (lq10 L (R.map rz) p (q + 1))) := Lib.hid (by rw [lq10_succ HXT.out]; exact HA.out.put t)
                have HRN2 : Hid (Rn (wi.setCell ⟨LB, t, none⟩ (.bool true)) (some aw) cW W) := Lib.hid (HRN.out.pastB HA.out _ _)
                have HB2 : Hid (Below w4.heap.size w4 (wi.setCell ⟨LB, t, none⟩ (.bool true))) := Lib.hid (HB.out.setCell (p := ⟨LB, t, none⟩) (by rw [HLB.out]; exact Nat.le_refl _) _)
                have ht300 : (t : Int) < 300 := by omega
                clear hfl
                go_upto_region 31 with (fail)
                clear yw c9 f9
                generalize wi.setCell ⟨LB, t, none⟩ (.bool true) = wj at HA2 HRN2 HB2 ⊢
                obtain ⟨aw2, hAW2, yw⟩ := HRN2.out.at_ HX.out
                injection hAW2 with hAW2
                subst hAW2
                obtain ⟨adr2, hA2, ⟨t0, t1⟩, -⟩ := (S6.out.call HB2.out).2.2.2.1.at_ HZT.out
                injection hA2 with hA2
                subst hA2
                dsimp only at t0 t1
                go_wp2_with fail
                go_roundw
                case rel => exact ⟨q + 1, by omega, by go_num, HA2, HRN2, HB2⟩
                case measure => simp [intOf]; omega
              · obtain rfl : kw = q := by omega
                have HA3 : Hid (Ab9 wi LB (ld10 L (R.map rz) (p + 1))) := Lib.hid (by rw [← lq10_all HPR.out, HWW.out, HKW.out]; exact HA.out)
                go_wp2_with fail
                go_roundw
                case rel => exact ⟨p + 1, v, by omega, by omega, by go_num, rfl, HV3, HA3, HB⟩
                case measure => simp [intOf]; omega
    · obtain rfl : mm = p := by omega
      have HV4 : Hid (hg10 (R.map rz) = v) := Lib.hid (by rw [HV.out, List.take_of_length_le (by rw [List.length_map, HRL.out]; exact Nat.le_refl _)])
      have SQ := Lib.hid (S6.out.call HB.out)
      have HHT := Lib.hid (ktheight F0 (some adr) c mm R wr trivial SQ.out.2.2.2.1 HRL.out (by omega) (fun z hz => by
        obtain ⟨i, hi⟩ := List.getElem?_of_mem hz
        have h := in10s_len HI.out i
        rw [map_rz10 hi] at h
        have h2 := (List.getElem?_eq_some_iff.1 hi).1
        rw [HRL.out] at h2
        dsimp only at h
        omega))
      rw [HV4.out] at HHT
      go_wp2_with fail
      refine HHT.out.mono ?_
      rintro r w9 ⟨rfl, hb⟩
      have HB9 := Lib.hid (SQ.out.call hb).1
      clear hb HHT SQ
      go_wp2_with fail
      go_ret
      exact ⟨by simp, HB9.out⟩
end Go.Proofs.Ytplgmdbocmfbcaa
