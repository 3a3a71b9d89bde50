/-
  Layer 8: what the reference's Bytes and May of modules answer.
-/
import Derived.Test.YteimpkjpoijhmaaDoorMl
import Derived.Test.YteimpkjpoijhmaaDoorMg
import Derived.Test.YteimpkjpoijhmaaDoorHrb
namespace Go.Proofs.YteimpkjpoijhmaaDoor
open Go.RowKit
set_option maxRecDepth 100000
set_option linter.unusedSimpArgs false
set_option linter.unusedVariables false

set_option maxHeartbeats 8000000 in
theorem r8bytes_v (y : Ma) (d : Md) (w : World) (hq : Hq w y d) : Calls Tryd.prog 10 #[dv y d] w fun r w' => ∃ A c, r = .returned (.tuple #[.slice A (qB d).length c, .int .i64 (qE d)]) ∧
    w'.ownsRow w.heap.size 5 1 (.slice A (qB d).length c) (qB d).length (cel (qB d)) ∧ Below w.heap.size w w' := by
  have hls := hq.2.2.1.len
  have hlg := hq.1.len
  have hlp := hq.2.1.len
  have hib := hq.2.2.2.2
  have hzl := hq.zlen
  rw [hzl] at hls
  have HZL := Lib.hid hzl
  have HZA := Lib.hid (fun (i : Nat) (h1 : i < y.Z.length) (h2 : i < d.s.length) => hq.zat h1 h2)
  obtain ⟨G, gc, P, pc, A, c, Z⟩ := y
  dsimp only at HZL HZA hzl
  obtain ⟨i0, hi, hz0, hz1, hz2⟩ := info_parts Tryd.info5
  have S0 := Lib.hid (((Sx.start w).add (fQm ⟨G, gc, P, pc, A, c, Z⟩ d) hq).mkD ⟨G, gc, P, pc, A, c, Z⟩ d)
  clear hq hzl
  obtain ⟨z0, z1, z2, z3, z4⟩ := (S0.out.call (Below.refl _ _)).2.1
  dsimp only at z1 z2 z3
  go_enter Tryd.func10, Tryd.ntmps10
  by_cases c1 : 4 < d.g.length
  · have HE : Hid (qE d = 80) := by rw [Hid, qE, if_pos (by omega)]
    have HB0 : Hid (qB d = []) := by rw [Hid, qB, HE.out]; rfl
    go_wp2_with fail
    go_ret2
    exact ⟨none, 0, by rw [HE.out, HB0.out]; rfl, by rw [HB0.out]; exact World.ownsRow_nil _ _ _ _, S0.out.1⟩
  · by_cases c2 : 16 < d.s.length
    · have HE : Hid (qE d = 80) := by rw [Hid, qE, if_pos (by omega)]
      have HB0 : Hid (qB d = []) := by rw [Hid, qB, HE.out]; rfl
      go_wp2_with fail
      go_ret2
      exact ⟨none, 0, by rw [HE.out, HB0.out]; rfl, by rw [HB0.out]; exact World.ownsRow_nil _ _ _ _, S0.out.1⟩
    · by_cases c3 : d.i < -1
      · have HE : Hid (qE d = 80) := by rw [Hid, qE, if_pos (by omega)]
        have HB0 : Hid (qB d = []) := by rw [Hid, qB, HE.out]; rfl
        go_wp2_with fail
        go_ret2
        exact ⟨none, 0, by rw [HE.out, HB0.out]; rfl, by rw [HB0.out]; exact World.ownsRow_nil _ _ _ _, S0.out.1⟩
      · by_cases c4 : (d.s.length : Int) ≤ d.i
        · have HE : Hid (qE d = 80) := by rw [Hid, qE, if_pos (by omega)]
          have HB0 : Hid (qB d = []) := by rw [Hid, qB, HE.out]; rfl
          go_wp2_with fail
          go_ret2
          exact ⟨none, 0, by rw [HE.out, HB0.out]; rfl, by rw [HB0.out]; exact World.ownsRow_nil _ _ _ _, S0.out.1⟩
        · have HQ : Hid (qE d = if poM d.g = true then (if poM d.p = true then (if qmE d.s = 0 then (if 2000 < (qX d).length then 3 else 0) else qmE d.s) else 60) else 60) := by rw [Hid, qE, if_neg (by omega)]
          go_upto_region 3 with (fail)
          have S0' : Hid (Sx w (w.alloc (.cells #[.slice G d.g.length gc, .slice P d.p.length pc, .slice A d.s.length c, .int .i64 d.i] 25)) [fD w.heap.size ⟨G, gc, P, pc, A, c, Z⟩ d, fQm ⟨G, gc, P, pc, A, c, Z⟩ d]) := S0
          clear S0
          generalize w.alloc (.cells #[.slice G d.g.length gc, .slice P d.p.length pc, .slice A d.s.length c, .int .i64 d.i] 25) = w0 at *
          have S0 := S0'
          clear S0'
          have hs0 := S0.out.1.size
          clear z0 z1 z2 z3 z4
          obtain ⟨z0, z1, z2, z3, z4⟩ := (S0.out.call (Below.refl _ _)).2.1
          dsimp only at z1 z2 z3
          go_wp2_with fail
          refine (r6bytes_v G gc _ d.g _ S0.out.2.2.1.1 rfl).mono ?_
          rintro r w1 ⟨A1, c1, rfl, ho1, hb1⟩
          have HO1 := Lib.hid ho1
          have HB1 := Lib.hid hb1
          clear ho1 hb1
          clear z0 z1 z2 z3 z4
          obtain ⟨z0, z1, z2, z3, z4⟩ := (S0.out.call HB1.out).2.1
          dsimp only at z1 z2 z3
          cases hpg : poM d.g with
          | false =>
            have e1 : poE d.g = 60 := by rw [poE, if_neg (by rw [hpg]; decide)]
            have HE : Hid (qE d = 60) := by rw [Hid, HQ.out, if_neg (by rw [hpg]; decide)]
            have HB0 : Hid (qB d = []) := by rw [Hid, qB, HE.out]; rfl
            go_wp2_with fail
            go_ret2
            exact ⟨none, 0, by rw [HE.out, HB0.out]; rfl, by rw [HB0.out]; exact World.ownsRow_nil _ _ _ _, (S0.out.call HB1.out).1⟩
          | true =>
            have e1 : poE d.g = 0 := by rw [poE, if_pos hpg]
            have HL1 : Hid (poL d.g = poB d.g) := by rw [Hid, poL, if_pos hpg]
            have HQ1 : Hid (qE d = if poM d.p = true then (if qmE d.s = 0 then (if 2000 < (qX d).length then 3 else 0) else qmE d.s) else 60) := by rw [Hid, HQ.out, if_pos hpg]
            clear HQ hpg
            go_wp2_with fail
            refine (r6bytes_v P pc _ d.p _ (S0.out.call HB1.out).2.2.1.2.1 rfl).mono ?_
            rintro r w2 ⟨A2, c2, rfl, ho2, hb2⟩
            have HO2 := Lib.hid (own_below HO1.out hb2 (Nat.le_refl _))
            have HB2 := Lib.hid (below_on HB1.out hb2)
            have HR2 := Lib.hid (own_rd ho2 (poL_byt _))
            clear ho2 hb2 HO1 HB1 e1
            clear z0 z1 z2 z3 z4
            obtain ⟨z0, z1, z2, z3, z4⟩ := (S0.out.call HB2.out).2.1
            dsimp only at z1 z2 z3
            cases hpp : poM d.p with
            | false =>
              have e2 : poE d.p = 60 := by rw [poE, if_neg (by rw [hpp]; decide)]
              have HE : Hid (qE d = 60) := by rw [Hid, HQ1.out, if_neg (by rw [hpp]; decide)]
              have HB0 : Hid (qB d = []) := by rw [Hid, qB, HE.out]; rfl
              go_wp2_with fail
              go_ret2
              exact ⟨none, 0, by rw [HE.out, HB0.out]; rfl, by rw [HB0.out]; exact World.ownsRow_nil _ _ _ _, (S0.out.call HB2.out).1⟩
            | true =>
              have e2 : poE d.p = 0 := by rw [poE, if_pos hpp]
              have HL2 : Hid (poL d.p = poB d.p) := by rw [Hid, poL, if_pos hpp]
              have HQ2 : Hid (qE d = if qmE d.s = 0 then (if 2000 < (qX d).length then 3 else 0) else qmE d.s) := by rw [Hid, HQ1.out, if_pos hpp]
              have bl1 := poL_len d.g
              have bl2 := poL_len d.p
              clear HQ1 hpp
              clear z0 z1 z2 z3 z4
              go_wp2_with (at_builtin; refine wpList_append_rd _ rfl _ _ 28 rfl w0.heap.size 5 i0 Tryd.underlying28 hi hz0 hz1 hz2 _ _ (poL d.g) rfl HO2.out A2 _ c2 (poL d.p) rfl HR2.out rfl (by omega) HB2.out.size ?_)
              intro A3 c3 w3 ho hg hb _
              obtain ⟨X3, hX3⟩ : ∃ X, poL d.g ++ poL d.p = X := ⟨_, rfl⟩
              obtain ⟨n3, hn3⟩ : ∃ n, (poL d.g).length + (poL d.p).length = n := ⟨_, rfl⟩
              rw [hX3, hn3] at ho
              rw [hn3]
              have HX3 := Lib.hid hX3
              have bn3 : n3 ≤ 578 := by omega
              have HO3 := Lib.hid ho
              have HB3 := Lib.hid (HB2.out.trans hb)
              clear ho hg hb HO2 HB2 HR2 hX3 hn3 e2
              obtain ⟨nm, hnm⟩ : ∃ nm, d.s.length = nm := ⟨_, rfl⟩
              have HNM := Lib.hid hnm
              have hmod : ((d.s.length : Int)) % 256 = d.s.length := by omega
              obtain ⟨z0, z1, z2, z3, z4⟩ := (S0.out.call HB3.out).2.1
              dsimp only at z1 z2 z3
              go_upto_region 10 with (fail)
              have HOx := Lib.hid (own_below (B := w0.heap.size) HO3.out (new1 (a := .cells #[.int .u8 (d.s.length : Int)] 5)) (Nat.le_refl _))
              have HRx := Lib.hid (rd_one w3 (d.s.length : Int) (by omega))
              have HBx : Hid (Below w0.heap.size w0 (w3.alloc (.cells #[.int .u8 (d.s.length : Int)] 5))) := HB3.out.alloc HB3.out.size _
              clear HO3 HB3 hnm
              go_wp2_with (at_builtin; refine wpList_append_rd _ rfl _ _ 28 rfl w0.heap.size 5 i0 Tryd.underlying28 hi hz0 hz1 hz2 _ n3 X3 rfl HOx.out _ 1 1 [(d.s.length : Int)] rfl HRx.out rfl (by omega) HBx.out.size ?_)
              intro A4 c4 w4 ho hg hb _
              obtain ⟨X4, hX4⟩ : ∃ X, X3 ++ [(d.s.length : Int)] = X := ⟨_, rfl⟩
              obtain ⟨n4, hn4⟩ : ∃ n, n3 + 1 = n := ⟨_, rfl⟩
              rw [hX4, hn4] at ho
              rw [hn4]
              have HX4 : Hid (X4 = poB d.g ++ (poB d.p ++ ((d.s.length : Int) :: qmB (d.s.take 0)))) := by
                rw [Hid, ← hX4, ← HX3.out, HL1.out, HL2.out]
                simp [qmB]
              have bn4 : n4 ≤ 579 := by omega
              have HO4 := Lib.hid ho
              have HB4 := Lib.hid (HBx.out.trans hb)
              clear ho hg hb HOx HRx HBx hX4 hn4 hmod bl1 bl2 HX3 HL1 HL2
              clear z0 z1 z2 z3 z4
              go_upto_region 12 with (fail)
              go_loopw [4, 7] (fun out i wr => ∃ (j N : Nat) (A' : Option Addr) (c' : Nat) (X : List Int), j ≤ d.s.length ∧ N ≤ 579 + j * 628 ∧ i = .int .i64 j ∧ out = .slice A' N c' ∧ Hid (wr.ownsRow w0.heap.size 5 1 (.slice A' N c') N (cel X)) ∧ Hid (X = poB d.g ++ (poB d.p ++ ((d.s.length : Int) :: qmB (d.s.take j)))) ∧ Hid (qmE d.s = qmE (d.s.drop j)) ∧ Hid (Below w0.heap.size w0 wr)) (fun _ i _ => d.s.length - (intOf i).toNat)
              case atStart => exact ⟨0, n4, A4, c4, X4, by omega, by omega, rfl, rfl, HO4, HX4, rfl, HB4⟩
              case round =>
                obtain ⟨j, N, A5, c5, X, hj, hN, rfl, rfl, HO, HX, HM, HB⟩ := hrel
                clear HO4 HX4 HB4
                obtain ⟨z0, z1, z2, z3, z4⟩ := (S0.out.call HB.out).2.1
                dsimp only at z1 z2 z3
                have hsz := HB.out.size
                by_cases h1 : j < d.s.length
                · have h1z : j < Z.length := by rw [HZL.out]; exact h1
                  have hR : Rm wr A c Z := (S0.out.call HB.out).2.2.1.2.2.1
                  obtain ⟨ad, rfl, -, -⟩ := hR.at_ h1z
                  have HE := Lib.hid (Rm.each (w := wr) (ad := ad) (c := c) h1z)
                  have HSN := Lib.hid (qmB_snoc h1)
                  have HEA := Lib.hid (qmE_at h1)
                  rw [HZA.out j h1z h1] at HSN HEA
                  obtain ⟨⟨a1, a2, a3, a4, a5, a6, a7, a8⟩, hok⟩ := HE.out wr hR
                  clear hR
                  generalize Z[j] = z at *
                  obtain ⟨x, m, k⟩ := z
                  dsimp only at a1 a2 a3 a4 a5 a6 a7 a8 hok HSN HEA
                  have HOK := Lib.hid hok
                  clear hok
                  cases hm : mM m with
                  | false =>
                    have P := Lib.hid (r7bytes_f x m wr HOK.out.1 hm)
                    have HME : Hid (qmE d.s = 70) := by rw [Hid, HM.out, HEA.out, if_neg (by rw [hm]; decide)]
                    have HE8 : Hid (qE d = 70) := by rw [Hid, HQ2.out, HME.out]; rfl
                    have HB0 : Hid (qB d = []) := by rw [Hid, qB, HE8.out]; rfl
                    clear hm
                    go_wp2_with fail
                    refine P.out.mono ?_
                    rintro r w5 ⟨rfl, hb5⟩
                    have HB5 := Lib.hid (below_on HB.out hb5)
                    clear hb5 P
                    go_wp2_with fail
                    go_ret2
                    exact ⟨none, 0, by rw [HE8.out, HB0.out]; rfl, by rw [HB0.out]; exact World.ownsRow_nil _ _ _ _, (S0.out.call HB5.out).1⟩
                  | true =>
                    have P := Lib.hid (r7bytes_t x m wr HOK.out.1 hm)
                    have hml := mL_le hm
                    have HEA2 : Hid (qmE (d.s.drop j) = if codM k = true then qmE (d.s.drop (j + 1)) else 40) := by rw [Hid, HEA.out, if_pos hm]
                    clear hm HEA
                    go_wp2_with fail
                    refine P.out.mono ?_
                    rintro r w5 ⟨A6, c6, rfl, ho6, hb6⟩
                    have HB5 := Lib.hid (below_on HB.out hb6)
                    have HO5 := Lib.hid (own_below HO.out hb6 (Nat.le_refl _))
                    have HR6 := Lib.hid (own_rd ho6 (mL_byt m))
                    have OBl : Hid (∀ b, (Value.slice A5 N c5).ownBlock = some b → b < wr.heap.size) := fun b h => (HO.out.lt b h).2
                    have hs6 := hb6.size
                    clear ho6 hb6 P HO HB a1 a2 a3 a4 a5 a6 a7 a8
                    clear z0 z1 z2 z3 z4
                    obtain ⟨z0, z1, z2, z3, z4⟩ := (S0.out.call HB5.out).2.1
                    dsimp only at z1 z2 z3
                    have hR : Rm w5 (some ad) c Z := (S0.out.call HB5.out).2.2.1.2.2.1
                    obtain ⟨⟨a1, a2, a3, a4, a5, a6, a7, a8⟩, hok⟩ := HE.out w5 hR
                    dsimp only at a1 a2 a3 a4 a5 a6 a7 a8 hok
                    have hkl : k.length = x.k := hok.2.2
                    have hri := hok.2.1
                    clear hR hok
                    cases hk : codM k with
                    | false =>
                      have P := Lib.hid (r5bytes_f x.D x.e x.k k w5 hri hkl hk)
                      have HME : Hid (qmE d.s = 40) := by rw [Hid, HM.out, HEA2.out, if_neg (by rw [hk]; decide)]
                      have HE8 : Hid (qE d = 40) := by rw [Hid, HQ2.out, HME.out]; rfl
                      have HB0 : Hid (qB d = []) := by rw [Hid, qB, HE8.out]; rfl
                      clear hk hri hkl
                      go_wp2_with fail
                      refine P.out.mono ?_
                      rintro r w6 ⟨rfl, hb7⟩
                      have HB6 := Lib.hid (below_on HB5.out hb7)
                      clear hb7 P
                      go_wp2_with fail
                      go_ret2
                      exact ⟨none, 0, by rw [HE8.out, HB0.out]; rfl, by rw [HB0.out]; exact World.ownsRow_nil _ _ _ _, (S0.out.call HB6.out).1⟩
                    | true =>
                      have P := Lib.hid (r5bytes_t x.D x.e x.k k w5 hri hkl hk)
                      have hcl := cB_le hk
                      have HCB := Lib.hid (cB_byt hk hri.1)
                      have hcp := cB_pos k
                      have HM2 : Hid (qmE d.s = qmE (d.s.drop (j + 1))) := by rw [Hid, HM.out, HEA2.out, if_pos hk]
                      clear hk hri hkl HEA2 HM
                      go_wp2_with fail
                      refine P.out.mono ?_
                      rintro r w6 ⟨A7, c7, rfl, ho7, hb7⟩
                      have HB6 := Lib.hid (below_on HB5.out hb7)
                      have HO6 := Lib.hid (own_below HO5.out hb7 (Nat.le_refl _))
                      have HR6' := Lib.hid (HR6.out.keep hb7)
                      have HR7 : Hid (Rd w6 A7 c7 (codB k) ∧ ∀ ad, A7 = some ad → wr.heap.size ≤ ad.block) := by
                        refine ⟨own_rd ho7 HCB.out, fun ad h => ?_⟩
                        obtain ⟨g, hg1, hg2⟩ := own_some ho7 hcp
                        rw [hg1] at h
                        obtain rfl := Option.some.inj h
                        show wr.heap.size ≤ g
                        omega
                      clear ho7 hb7 P HO5 HB5 HR6 HE HOK a1 a2 a3 a4 a5 a6 a7 a8
                      clear z0 z1 z2 z3 z4
                      go_wp2_with (at_builtin; refine wpList_append_rd _ rfl (.tmp 95) (.tmp 96) 28 rfl w0.heap.size 5 i0 Tryd.underlying28 hi hz0 hz1 hz2 _ N X rfl HO6.out A6 _ c6 (mL m) rfl HR6'.out rfl (by omega) HB6.out.size ?_)
                      intro A8 c8 w7 ho hg hb _
                      obtain ⟨X8, hX8⟩ : ∃ X8, X ++ mL m = X8 := ⟨_, rfl⟩
                      obtain ⟨n8, hn8⟩ : ∃ n, N + (mL m).length = n := ⟨_, rfl⟩
                      rw [hX8, hn8] at ho
                      rw [hn8]
                      have HX8 := Lib.hid hX8
                      have bn8 : n8 ≤ 579 + j * 628 + 27 := by omega
                      have HO7 := Lib.hid ho
                      have HB7 := Lib.hid (HB6.out.trans hb)
                      have HR8 := Lib.hid (HR7.out.1.grown hg (fun ad h0 _ e => by have := OBl.out _ e.symm; have := HR7.out.2 ad h0; omega))
                      clear ho hg hb HO6 HB6 HR6' HR7 OBl hX8 hn8
                      go_wp2_with (at_builtin; refine wpList_append_rd _ rfl (.tmp 98) (.tmp 99) 28 rfl w0.heap.size 5 i0 Tryd.underlying28 hi hz0 hz1 hz2 _ n8 X8 rfl HO7.out A7 _ c7 (codB k) rfl HR8.out rfl (by omega) HB7.out.size ?_)
                      intro A9 c9 w8 ho hg hb _
                      obtain ⟨X9, hX9⟩ : ∃ X9, X8 ++ codB k = X9 := ⟨_, rfl⟩
                      obtain ⟨n9, hn9⟩ : ∃ n, n8 + (codB k).length = n := ⟨_, rfl⟩
                      rw [hX9, hn9] at ho
                      rw [hn9]
                      have HX9 : Hid (X9 = poB d.g ++ (poB d.p ++ ((d.s.length : Int) :: qmB (d.s.take (j + 1))))) := by
                        rw [Hid, ← hX9, ← HX8.out, HX.out, HSN.out]
                        simp
                      have bn9 : n9 ≤ 579 + (j + 1) * 628 := by omega
                      have HO8 := Lib.hid ho
                      have HB8 := Lib.hid (HB7.out.trans hb)
                      clear ho hg hb HO7 HB7 HR8 hX9 hn9 HX8
                      go_wp2_with fail
                      go_roundw
                      case rel => exact ⟨j + 1, n9, A9, c9, X9, by omega, bn9, by go_num, rfl, HO8, HX9, HM2, HB8⟩
                      case measure => simp [intOf]; omega
                · have hjn : j = d.s.length := by omega
                  subst j
                  have HM0 : Hid (qmE d.s = 0) := by rw [Hid, HM.out, List.drop_of_length_le (Nat.le_refl _)]; rfl
                  have HQ3 : Hid (qE d = if 2000 < (qX d).length then 3 else 0) := by rw [Hid, HQ2.out, if_pos HM0.out]
                  have HX2 : Hid (X = poB d.g ++ (poB d.p ++ ((d.s.length : Int) :: qmB d.s))) := by rw [Hid, HX.out, List.take_length]
                  clear HX HM HQ2
                  have hNb : N ≤ 20000 := by omega
                  by_cases h0 : d.i < 0
                  · have HOx := Lib.hid (own_below (B := w0.heap.size) HO.out (new1 (a := .cells #[.int .u8 (255)] 5)) (Nat.le_refl _))
                    have HRx := Lib.hid (rd_one wr (255) (by omega))
                    have HBx : Hid (Below w0.heap.size w0 (wr.alloc (.cells #[.int .u8 (255)] 5))) := HB.out.alloc HB.out.size _
                    clear HO HB
                    go_wp2_with (at_builtin; refine wpList_append_rd _ rfl _ _ 28 rfl w0.heap.size 5 i0 Tryd.underlying28 hi hz0 hz1 hz2 _ N X rfl HOx.out _ 1 1 [255] rfl HRx.out rfl (by omega) HBx.out.size ?_)
                    intro A6 c6 w5 ho hg hb _
                    have HXX : Hid (X ++ [255] = qX d) := by
                      rw [Hid, HX2.out, qX, if_pos (by omega)]
                      simp
                    have hnx : N + 1 = (qX d).length := by
                      have := ho.1
                      rw [length_cel, HXX.out] at this
                      omega
                    rw [HXX.out] at ho
                    have HO5 := Lib.hid ho
                    have HB5 := Lib.hid (HBx.out.trans hb)
                    have HNX := Lib.hid hnx
                    clear ho hg hb HOx HRx HBx HX2 hnx
                    clear z0 z1 z2 z3 z4
                    by_cases hlong : 2000 < N + 1
                    · have HE8 : Hid (qE d = 3) := by rw [Hid, HQ3.out, if_pos (by rw [← HNX.out]; exact hlong)]
                      have HB0 : Hid (qB d = []) := by rw [Hid, qB, HE8.out]; rfl
                      go_wp2_with fail
                      go_ret2
                      exact ⟨none, 0, by rw [HE8.out, HB0.out]; rfl, by rw [HB0.out]; exact World.ownsRow_nil _ _ _ _, (S0.out.call HB5.out).1⟩
                    · have HE8 : Hid (qE d = 0) := by rw [Hid, HQ3.out, if_neg (by rw [← HNX.out]; exact hlong)]
                      have HB0 : Hid (qB d = qX d) := by rw [Hid, qB, HE8.out]; rfl
                      go_wp2_with fail
                      go_ret2
                      exact ⟨A6, c6, by rw [HE8.out, HB0.out, ← HNX.out]; rfl, by rw [HB0.out, ← HNX.out]; exact own_base HO5.out hs0, (S0.out.call HB5.out).1⟩
                  · have hmod : d.i % 256 = d.i := by omega
                    have HOx := Lib.hid (own_below (B := w0.heap.size) HO.out (new1 (a := .cells #[.int .u8 (d.i)] 5)) (Nat.le_refl _))
                    have HRx := Lib.hid (rd_one wr (d.i) (by omega))
                    have HBx : Hid (Below w0.heap.size w0 (wr.alloc (.cells #[.int .u8 (d.i)] 5))) := HB.out.alloc HB.out.size _
                    clear HO HB
                    go_wp2_with (at_builtin; refine wpList_append_rd _ rfl _ _ 28 rfl w0.heap.size 5 i0 Tryd.underlying28 hi hz0 hz1 hz2 _ N X rfl HOx.out _ 1 1 [d.i] rfl HRx.out rfl (by omega) HBx.out.size ?_)
                    intro A6 c6 w5 ho hg hb _
                    have HXX : Hid (X ++ [d.i] = qX d) := by
                      rw [Hid, HX2.out, qX, if_neg (by omega)]
                      simp
                    have hnx : N + 1 = (qX d).length := by
                      have := ho.1
                      rw [length_cel, HXX.out] at this
                      omega
                    rw [HXX.out] at ho
                    have HO5 := Lib.hid ho
                    have HB5 := Lib.hid (HBx.out.trans hb)
                    have HNX := Lib.hid hnx
                    clear ho hg hb HOx HRx HBx HX2 hnx
                    clear z0 z1 z2 z3 z4
                    by_cases hlong : 2000 < N + 1
                    · have HE8 : Hid (qE d = 3) := by rw [Hid, HQ3.out, if_pos (by rw [← HNX.out]; exact hlong)]
                      have HB0 : Hid (qB d = []) := by rw [Hid, qB, HE8.out]; rfl
                      go_wp2_with fail
                      go_ret2
                      exact ⟨none, 0, by rw [HE8.out, HB0.out]; rfl, by rw [HB0.out]; exact World.ownsRow_nil _ _ _ _, (S0.out.call HB5.out).1⟩
                    · have HE8 : Hid (qE d = 0) := by rw [Hid, HQ3.out, if_neg (by rw [← HNX.out]; exact hlong)]
                      have HB0 : Hid (qB d = qX d) := by rw [Hid, qB, HE8.out]; rfl
                      go_wp2_with fail
                      go_ret2
                      exact ⟨A6, c6, by rw [HE8.out, HB0.out, ← HNX.out]; rfl, by rw [HB0.out, ← HNX.out]; exact own_base HO5.out hs0, (S0.out.call HB5.out).1⟩
end Go.Proofs.YteimpkjpoijhmaaDoor
