/-
  Layer 8: what the law's Great and the reference's Same answer.
-/
import Derived.Test.YteimpkjpoijhmaaDoorMm
namespace Go.Proofs.YteimpkjpoijhmaaDoor
open Go.RowKit
set_option maxRecDepth 100000
set_option linter.unusedSimpArgs false
set_option linter.unusedVariables false

/-- One method of a module, at whatever world. -/
theorem Rm.each {w : World} {ad : Addr} {c : Nat} {Z : List Me} {j : Nat} (h1 : j < Z.length) : ∀ w', Rm w' (some ad) c Z → At8 w' (ad.add (j * 8)) Z[j] ∧ (Z[j]).ok w' := by
  intro w' h
  obtain ⟨ad', e', ha, hk⟩ := h.at_ h1
  obtain rfl := Option.some.inj e'
  exact ⟨ha, hk⟩
set_option maxHeartbeats 2000000 in
theorem great8_v (y : Ma) (d : Md) (w : World) (hq : Hq w y d) : Calls Tryd.prog 8 #[dv y d] w fun e w' => e = .returned (.bool (qG d)) ∧ Below w.heap.size w w' := by
  obtain ⟨v, hv⟩ : ∃ v, qG d = v := ⟨_, rfl⟩
  have HV := Lib.hid hv
  rw [hv]
  clear hv
  have hlg := hq.1.len
  have hlp := hq.2.1.len
  have hls := hq.2.2.1.len
  have hzl := hq.zlen
  rw [hzl] at hls
  have HZL := Lib.hid hzl
  have HZA := Lib.hid (fun (i : Nat) (h1 : i < y.Z.length) (h2 : i < d.s.length) => hq.zat h1 h2)
  obtain ⟨G, gc, P, pc, A, c, Z⟩ := y
  dsimp only at HZL HZA hzl
  have S0 := Lib.hid (((Sx.start w).add (fQm ⟨G, gc, P, pc, A, c, Z⟩ d) hq).mkD ⟨G, gc, P, pc, A, c, Z⟩ d)
  clear hq hzl
  obtain ⟨-, ⟨z0, z1, z2, z3, z4⟩, -⟩ := S0.out
  dsimp only at z1 z2 z3
  by_cases b1 : 100 < d.g.length
  · have HN : Hid (v = true) := by rw [Hid, ← HV.out, qG, decide_eq_true b1]; rfl
    go_enter Tryd.func8, Tryd.ntmps8
    go_wp2_with fail
    go_ret
    exact ⟨by rw [HN.out]; rfl, S0.out.1⟩
  · by_cases b2 : 100 < d.p.length
    · have HN : Hid (v = true) := by rw [Hid, ← HV.out, qG, decide_eq_true b2]; simp
      go_enter Tryd.func8, Tryd.ntmps8
      go_wp2_with fail
      go_ret
      exact ⟨by rw [HN.out]; rfl, S0.out.1⟩
    · by_cases b3 : 40 < d.s.length
      · have HN : Hid (v = true) := by rw [Hid, ← HV.out, qG, decide_eq_true b3]; simp
        go_enter Tryd.func8, Tryd.ntmps8
        go_wp2_with fail
        go_ret
        exact ⟨by rw [HN.out]; rfl, S0.out.1⟩
      · have HV2 : Hid (d.s.any qgE = v) := by rw [Hid, ← HV.out, qG, decide_eq_false b1, decide_eq_false b2, decide_eq_false b3]; rfl
        clear HV
        go_enter Tryd.func8, Tryd.ntmps8
        go_upto_region 3 with (fail)
        generalize hw0 : w.alloc (.cells #[.slice G d.g.length gc, .slice P d.p.length pc, .slice A d.s.length c, .int .i64 d.i] 25) = w0 at *
        have S1 : Hid (Sx w w0 [fD w.heap.size ⟨G, gc, P, pc, A, c, Z⟩ d, fQm ⟨G, gc, P, pc, A, c, Z⟩ d]) := by rw [← hw0]; exact S0
        clear S0 z0 z1 z2 z3 z4 hw0
        go_wp2_with fail
        go_loopw [3] (fun i wr => ∃ j : Nat, j ≤ d.s.length ∧ i = .int .i64 j ∧ Hid ((d.s.take j).any qgE = false) ∧ Hid (Sx w wr [fD w.heap.size ⟨G, gc, P, pc, A, c, Z⟩ d, fQm ⟨G, gc, P, pc, A, c, Z⟩ d])) (fun i _ => d.s.length - (intOf i).toNat)
        case atStart => exact ⟨0, by omega, rfl, by simp [Hid], S1⟩
        case round =>
          obtain ⟨j, hj, rfl, HT, S2⟩ := hrel
          clear S1
          obtain ⟨-, ⟨z0, z1, z2, z3, z4⟩, -⟩ := S2.out
          dsimp only at z1 z2 z3
          by_cases h1 : j < d.s.length
          · have h1z : j < Z.length := by rw [HZL.out]; exact h1
            have hR : Rm wr A c Z := S2.out.2.2.1.2.2.1
            obtain ⟨ad, rfl, -, -⟩ := hR.at_ h1z
            have HE := Lib.hid (Rm.each (w := wr) (ad := ad) (c := c) h1z)
            have HS : Hid (d.s.any qgE = true → v = true) := fun h => by rw [← HV2.out]; exact h
            have HJ : Hid (d.s[j] = ((Z[j]).m, (Z[j]).k)) := HZA.out j h1z h1
            have HTN : Hid (qgE d.s[j] = false → (d.s.take (j + 1)).any qgE = false) := fun h => by
              rw [List.take_add_one, List.getElem?_eq_getElem h1, List.any_append, HT.out]
              simp [h]
            have HTY : Hid (qgE d.s[j] = true → v = true) := fun h => HS.out (List.any_eq_true.2 ⟨_, List.getElem_mem h1, h⟩)
            rw [HJ.out] at HTN HTY
            obtain ⟨⟨a1, a2, a3, a4, a5, a6, a7, a8⟩, hok⟩ := HE.out wr hR
            clear HJ HS HT hR
            generalize Z[j] = z at *
            obtain ⟨x, m, k⟩ := z
            dsimp only at a1 a2 a3 a4 a5 a6 a7 a8 hok HTN HTY
            have hP := Lib.hid (great_v x m wr hok.1)
            have hkl : k.length = x.k := hok.2.2
            have HKL := Lib.hid hkl
            have hkm := hok.2.1.len
            rw [hkl] at hkm
            clear hok hkl
            go_wp2_with fail
            refine hP.out.mono ?_
            rintro e w3 ⟨rfl, hb3⟩
            have S3 := Lib.hid (S2.out.call hb3)
            have hR : Rm w3 (some ad) c Z := S3.out.2.2.1.2.2.1
            obtain ⟨⟨b1, b2, b3, b4, b5, b6, b7, b8⟩, -⟩ := HE.out w3 hR
            dsimp only at b1 b2 b3 b4 b5 b6 b7 b8
            clear hb3 S2 hP hR z0 z1 z2 z3 z4 a1 a2 a3 a4 a5 a6 a7 a8
            obtain ⟨-, ⟨z0, z1, z2, z3, z4⟩, -⟩ := S3.out
            dsimp only at z1 z2 z3
            cases hg : gB m with
            | true =>
              have HN := Lib.hid (HTY.out (by simp [qgE, hg]))
              clear HTN HTY hg
              go_wp2_with fail
              go_ret
              exact ⟨by rw [HN.out]; rfl, S3.out.1⟩
            | false =>
              by_cases h3 : 300 < x.k
              · have HN := Lib.hid (HTY.out (by simp [qgE, hg, HKL.out, h3]))
                clear HTN HTY hg
                go_wp2_with fail
                go_ret
                exact ⟨by rw [HN.out]; rfl, S3.out.1⟩
              · have HN := Lib.hid (HTN.out (by simp [qgE, hg, HKL.out]; omega))
                clear HTN HTY hg
                go_wp2_with fail
                go_roundw
                case rel => exact ⟨j + 1, by omega, by go_num, HN, S3⟩
                case measure => simp [intOf]; omega
          · obtain rfl : j = d.s.length := by omega
            have HN : Hid (v = false) := by
              have := HT.out
              rw [List.take_length] at this
              rw [Hid, ← HV2.out, this]
            clear HT
            go_wp2_with fail
            go_ret
            exact ⟨by rw [HN.out]; rfl, S2.out.1⟩
end Go.Proofs.YteimpkjpoijhmaaDoor
