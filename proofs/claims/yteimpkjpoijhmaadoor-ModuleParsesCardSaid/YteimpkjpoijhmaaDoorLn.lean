/-
  Ml, Mb, Mr, Mt, Mk: in one text.
-/
import Derived.Test.YteimpkjpoijhmaaDoorLm
import Derived.Test.YteimpkjpoijhmaaDoorLg
import Derived.Test.YteimpkjpoijhmaaDoorHrb
import Derived.Test.YteimpkjpoijhmaaDoorLi
import Derived.Test.YteimpkjpoijhmaaDoorHj
namespace Go.Proofs.YteimpkjpoijhmaaDoor
open Go.RowKit
set_option maxRecDepth 100000
set_option linter.unusedSimpArgs false
set_option linter.unusedVariables false

theorem mL_byt (m : Mh) : Byt (mL m) := by
  by_cases h : mM m = true
  · have hm := mM_iff.1 h
    have hq : 0 ≤ fl m.q ∧ fl m.q < 256 := by cases m.q <;> decide
    rw [mL, if_pos h]
    intro z hz
    simp only [List.mem_append, List.mem_cons, List.not_mem_nil, or_false] at hz
    rcases hz with (rfl | hz) | (rfl | hz) | (rfl | rfl) | hz | hz | hz
    · omega
    · have := kO_at hm.2.2.1 hz; omega
    · omega
    · have := kO_at hm.2.2.2.1 hz; omega
    · omega
    · exact hq
    · exact byt_digs _ _ z hz
    · exact byt_digs _ _ z hz
    · exact byt_digs _ _ z hz
  · rw [mL, if_neg h]
    intro z hz
    cases hz
theorem mL_le {m : Mh} (h : mM m = true) : (mL m).length ≤ 27 := by
  have hm := mM_iff.1 h
  rw [mL, if_pos h]
  simp [length_digs]
  omega
theorem oB_byt {x : Ins} (h : inM x = true) (h0 : InOk x) : Byt (opr x) := by
  obtain ⟨h1, h2, h3⟩ := inM_parts h
  have hw := opLo_nonneg x.1
  have hb := h0.1
  have hh : opHi x.1 ≤ 1024 := by unfold opHi; split <;> omega
  intro y hy
  rw [opr] at hy
  rcases List.mem_cons.1 hy with rfl | hy
  · exact hb
  · split at hy
    · simp at hy
      rcases hy with rfl | rfl <;> omega
    · cases hy
theorem cB_byt {L : List Ins} (h : codM L = true) (h0 : ∀ x ∈ L, InOk x) : Byt (codB L) := by
  obtain ⟨h1, h2, h3⟩ := codM_parts h
  intro y hy
  rw [codB] at hy
  rcases List.mem_cons.1 hy with rfl | hy
  · omega
  · obtain ⟨x, hx, hy⟩ := List.mem_flatMap.1 hy
    exact oB_byt (h3 x hx) (h0 x hx) y hy
theorem oB_len (x : Ins) : 1 ≤ (opr x).length ∧ (opr x).length ≤ 3 := by
  rw [opr]
  split <;> simp
theorem oBs_len (L : List Ins) : L.length ≤ (L.flatMap opr).length ∧ (L.flatMap opr).length ≤ 3 * L.length := by
  induction L with
  | nil => simp
  | cons x L ih =>
    have := oB_len x
    rw [List.flatMap_cons, List.length_append, List.length_cons]
    omega
theorem cB_le {L : List Ins} (h : codM L = true) : (codB L).length ≤ 601 := by
  have h1 := oBs_len L
  have h2 := codM_parts h
  rw [codB, List.length_cons]
  omega
theorem cB_pos (L : List Ins) : 0 < (codB L).length := by rw [codB, List.length_cons]; omega
theorem mL_pos {m : Mh} (h : mM m = true) : 0 < (mL m).length := by
  rw [mL, if_pos h]
  simp
theorem qmE_at {s : List (Mh × List Ins)} {j : Nat} (h : j < s.length) : qmE (s.drop j) = if mM (s[j]).1 = true then (if codM (s[j]).2 = true then qmE (s.drop (j + 1)) else 40) else 70 := by
  rw [List.drop_eq_getElem_cons h, qmE]
theorem qmB_snoc {s : List (Mh × List Ins)} {j : Nat} (h : j < s.length) : qmB (s.take (j + 1)) = qmB (s.take j) ++ (mL (s[j]).1 ++ codB (s[j]).2) := by
  rw [List.take_add_one, List.getElem?_eq_getElem h, qmB, List.flatMap_append]
  simp [qmB]
end Go.Proofs.YteimpkjpoijhmaaDoor
namespace Go.Proofs.YteimpkjpoijhmaaDoor
open Go.RowKit
set_option maxRecDepth 100000
set_option linter.unusedSimpArgs false
set_option linter.unusedVariables false

set_option maxHeartbeats 8000000 in
theorem r8bytes_v (y : Ma) (d : Md) (w : World) (hq : Hq w y d) : Calls Tryd.prog 10 #[dv y d] w fun r w' => ∃ A c, r = .returned (.tuple #[.slice A (qB d).length c, .int .i64 (qE d)]) ∧
    w'.ownsRow w.heap.size 5 1 (.slice A (qB d).length c) (qB d).length (cel (qB d)) ∧ Below w.heap.size w w' := by
  have hls := hq.2.2.1.len
  have hlg := hq.1.len
  have hlp := hq.2.1.len
  have hib := hq.2.2.2.2
  have hzl := hq.zlen
  rw [hzl] at hls
  have HZL := Lib.hid hzl
  have HZA := Lib.hid (fun (i : Nat) (h1 : i < y.Z.length) (h2 : i < d.s.length) => hq.zat h1 h2)
  obtain ⟨G, gc, P, pc, A, c, Z⟩ := y
  dsimp only at HZL HZA hzl
  obtain ⟨i0, hi, hz0, hz1, hz2⟩ := info_parts Tryd.info5
  have S0 := Lib.hid (((Sx.start w).add (fQm ⟨G, gc, P, pc, A, c, Z⟩ d) hq).mkD ⟨G, gc, P, pc, A, c, Z⟩ d)
  clear hq hzl
  obtain ⟨z0, z1, z2, z3, z4⟩ := (S0.out.call (Below.refl _ _)).2.1
  dsimp only at z1 z2 z3
  go_enter Tryd.func10, Tryd.ntmps10
  by_cases c1 : 4 < d.g.length
  · have HE : Hid (qE d = 80) := by rw [Hid, qE, if_pos (by omega)]
    have HB0 : Hid (qB d = []) := by rw [Hid, qB, HE.out]; rfl
    go_wp2_with fail
    go_ret2
    exact ⟨none, 0, by rw [HE.out, HB0.out]; rfl, by rw [HB0.out]; exact World.ownsRow_nil _ _ _ _, S0.out.1⟩
  · by_cases c2 : 16 < d.s.length
    · have HE : Hid (qE d = 80) := by rw [Hid, qE, if_pos (by omega)]
      have HB0 : Hid (qB d = []) := by rw [Hid, qB, HE.out]; rfl
      go_wp2_with fail
      go_ret2
      exact ⟨none, 0, by rw [HE.out, HB0.out]; rfl, by rw [HB0.out]; exact World.ownsRow_nil _ _ _ _, S0.out.1⟩
    · by_cases c3 : d.i < -1
      · have HE : Hid (qE d = 80) := by rw [Hid, qE, if_pos (by omega)]
        have HB0 : Hid (qB d = []) := by rw [Hid, qB, HE.out]; rfl
        go_wp2_with fail
        go_ret2
        exact ⟨none, 0, by rw [HE.out, HB0.out]; rfl, by rw [HB0.out]; exact World.ownsRow_nil _ _ _ _, S0.out.1⟩
      · by_cases c4 : (d.s.length : Int) ≤ d.i
        · have HE : Hid (qE d = 80) := by rw [Hid, qE, if_pos (by omega)]
          have HB0 : Hid (qB d = []) := by rw [Hid, qB, HE.out]; rfl
          go_wp2_with fail
          go_ret2
          exact ⟨none, 0, by rw [HE.out, HB0.out]; rfl, by rw [HB0.out]; exact World.ownsRow_nil _ _ _ _, S0.out.1⟩
        · have HQ : Hid (qE d = if poM d.g = true then (if poM d.p = true then (if qmE d.s = 0 then (if 2000 < (qX d).length then 3 else 0) else qmE d.s) else 60) else 60) := by rw [Hid, qE, if_neg (by omega)]
          go_upto_region 3 with (fail)
          have S0' : Hid (Sx w (w.alloc (.cells #[.slice G d.g.length gc, .slice P d.p.length pc, .slice A d.s.length c, .int .i64 d.i] 25)) [fD w.heap.size ⟨G, gc, P, pc, A, c, Z⟩ d, fQm ⟨G, gc, P, pc, A, c, Z⟩ d]) := S0
          clear S0
          generalize w.alloc (.cells #[.slice G d.g.length gc, .slice P d.p.length pc, .slice A d.s.length c, .int .i64 d.i] 25) = w0 at *
          have S0 := S0'
          clear S0'
          have hs0 := S0.out.1.size
          clear z0 z1 z2 z3 z4
          obtain ⟨z0, z1, z2, z3, z4⟩ := (S0.out.call (Below.refl _ _)).2.1
          dsimp only at z1 z2 z3
          go_wp2_with fail
          refine (r6bytes_v G gc _ d.g _ S0.out.2.2.1.1 rfl).mono ?_
          rintro r w1 ⟨A1, c1, rfl, ho1, hb1⟩
          have HO1 := Lib.hid ho1
          have HB1 := Lib.hid hb1
          clear ho1 hb1
          clear z0 z1 z2 z3 z4
          obtain ⟨z0, z1, z2, z3, z4⟩ := (S0.out.call HB1.out).2.1
          dsimp only at z1 z2 z3
          cases hpg : poM d.g with
          | false =>
            have e1 : poE d.g = 60 := by rw [poE, if_neg (by rw [hpg]; decide)]
            have HE : Hid (qE d = 60) := by rw [Hid, HQ.out, if_neg (by rw [hpg]; decide)]
            have HB0 : Hid (qB d = []) := by rw [Hid, qB, HE.out]; rfl
            go_wp2_with fail
            go_ret2
            exact ⟨none, 0, by rw [HE.out, HB0.out]; rfl, by rw [HB0.out]; exact World.ownsRow_nil _ _ _ _, (S0.out.call HB1.out).1⟩
          | true =>
            have e1 : poE d.g = 0 := by rw [poE, if_pos hpg]
            have HL1 : Hid (poL d.g = poB d.g) := by rw [Hid, poL, if_pos hpg]
            have HQ1 : Hid (qE d = if poM d.p = true then (if qmE d.s = 0 then (if 2000 < (qX d).length then 3 else 0) else qmE d.s) else 60) := by rw [Hid, HQ.out, if_pos hpg]
            clear HQ hpg
            go_wp2_with fail
            refine (r6bytes_v P pc _ d.p _ (S0.out.call HB1.out).2.2.1.2.1 rfl).mono ?_
            rintro r w2 ⟨A2, c2, rfl, ho2, hb2⟩
            have HO2 := Lib.hid (own_below HO1.out hb2 (Nat.le_refl _))
            have HB2 := Lib.hid (below_on HB1.out hb2)
            have HR2 := Lib.hid (own_rd ho2 (poL_byt _))
            clear ho2 hb2 HO1 HB1 e1
            clear z0 z1 z2 z3 z4
            obtain ⟨z0, z1, z2, z3, z4⟩ := (S0.out.call HB2.out).2.1
            dsimp only at z1 z2 z3
            cases hpp : poM d.p with
            | false =>
              have e2 : poE d.p = 60 := by rw [poE, if_neg (by rw [hpp]; decide)]
              have HE : Hid (qE d = 60) := by rw [Hid, HQ1.out, if_neg (by rw [hpp]; decide)]
              have HB0 : Hid (qB d = []) := by rw [Hid, qB, HE.out]; rfl
              go_wp2_with fail
              go_ret2
              exact ⟨none, 0, by rw [HE.out, HB0.out]; rfl, by rw [HB0.out]; exact World.ownsRow_nil _ _ _ _, (S0.out.call HB2.out).1⟩
            | true =>
              have e2 : poE d.p = 0 := by rw [poE, if_pos hpp]
              have HL2 : Hid (poL d.p = poB d.p) := by rw [Hid, poL, if_pos hpp]
              have HQ2 : Hid (qE d = if qmE d.s = 0 then (if 2000 < (qX d).length then 3 else 0) else qmE d.s) := by rw [Hid, HQ1.out, if_pos hpp]
              have bl1 := poL_len d.g
              have bl2 := poL_len d.p
              clear HQ1 hpp
              clear z0 z1 z2 z3 z4
              go_wp2_with (at_builtin; refine wpList_append_rd _ rfl _ _ 28 rfl w0.heap.size 5 i0 Tryd.underlying28 hi hz0 hz1 hz2 _ _ (poL d.g) rfl HO2.out A2 _ c2 (poL d.p) rfl HR2.out rfl (by omega) HB2.out.size ?_)
              intro A3 c3 w3 ho hg hb _
              obtain ⟨X3, hX3⟩ : ∃ X, poL d.g ++ poL d.p = X := ⟨_, rfl⟩
              obtain ⟨n3, hn3⟩ : ∃ n, (poL d.g).length + (poL d.p).length = n := ⟨_, rfl⟩
              rw [hX3, hn3] at ho
              rw [hn3]
              have HX3 := Lib.hid hX3
              have bn3 : n3 ≤ 578 := by omega
              have HO3 := Lib.hid ho
              have HB3 := Lib.hid (HB2.out.trans hb)
              clear ho hg hb HO2 HB2 HR2 hX3 hn3 e2
              obtain ⟨nm, hnm⟩ : ∃ nm, d.s.length = nm := ⟨_, rfl⟩
              have HNM := Lib.hid hnm
              have hmod : ((d.s.length : Int)) % 256 = d.s.length := by omega
              obtain ⟨z0, z1, z2, z3, z4⟩ := (S0.out.call HB3.out).2.1
              dsimp only at z1 z2 z3
              go_upto_region 10 with (fail)
              have HOx := Lib.hid (own_below (B := w0.heap.size) HO3.out (new1 (a := .cells #[.int .u8 (d.s.length : Int)] 5)) (Nat.le_refl _))
              have HRx := Lib.hid (rd_one w3 (d.s.length : Int) (by omega))
              have HBx : Hid (Below w0.heap.size w0 (w3.alloc (.cells #[.int .u8 (d.s.length : Int)] 5))) := HB3.out.alloc HB3.out.size _
              clear HO3 HB3 hnm
              go_wp2_with (at_builtin; refine wpList_append_rd _ rfl _ _ 28 rfl w0.heap.size 5 i0 Tryd.underlying28 hi hz0 hz1 hz2 _ n3 X3 rfl HOx.out _ 1 1 [(d.s.length : Int)] rfl HRx.out rfl (by omega) HBx.out.size ?_)
              intro A4 c4 w4 ho hg hb _
              obtain ⟨X4, hX4⟩ : ∃ X, X3 ++ [(d.s.length : Int)] = X := ⟨_, rfl⟩
              obtain ⟨n4, hn4⟩ : ∃ n, n3 + 1 = n := ⟨_, rfl⟩
              rw [hX4, hn4] at ho
              rw [hn4]
              have HX4 : Hid (X4 = poB d.g ++ (poB d.p ++ ((d.s.length : Int) :: qmB (d.s.take 0)))) := by
                rw [Hid, ← hX4, ← HX3.out, HL1.out, HL2.out]
                simp [qmB]
              have bn4 : n4 ≤ 579 := by omega
              have HO4 := Lib.hid ho
              have HB4 := Lib.hid (HBx.out.trans hb)
              clear ho hg hb HOx HRx HBx hX4 hn4 hmod bl1 bl2 HX3 HL1 HL2
              clear z0 z1 z2 z3 z4
              go_upto_region 12 with (fail)
              go_loopw [4, 7] (fun out i wr => ∃ (j N : Nat) (A' : Option Addr) (c' : Nat) (X : List Int), j ≤ d.s.length ∧ N ≤ 579 + j * 628 ∧ i = .int .i64 j ∧ out = .slice A' N c' ∧ Hid (wr.ownsRow w0.heap.size 5 1 (.slice A' N c') N (cel X)) ∧ Hid (X = poB d.g ++ (poB d.p ++ ((d.s.length : Int) :: qmB (d.s.take j)))) ∧ Hid (qmE d.s = qmE (d.s.drop j)) ∧ Hid (Below w0.heap.size w0 wr)) (fun _ i _ => d.s.length - (intOf i).toNat)
              case atStart => exact ⟨0, n4, A4, c4, X4, by omega, by omega, rfl, rfl, HO4, HX4, rfl, HB4⟩
              case round =>
                obtain ⟨j, N, A5, c5, X, hj, hN, rfl, rfl, HO, HX, HM, HB⟩ := hrel
                clear HO4 HX4 HB4
                obtain ⟨z0, z1, z2, z3, z4⟩ := (S0.out.call HB.out).2.1
                dsimp only at z1 z2 z3
                have hsz := HB.out.size
                by_cases h1 : j < d.s.length
                · have h1z : j < Z.length := by rw [HZL.out]; exact h1
                  have hR : Rm wr A c Z := (S0.out.call HB.out).2.2.1.2.2.1
                  obtain ⟨ad, rfl, -, -⟩ := hR.at_ h1z
                  have HE := Lib.hid (Rm.each (w := wr) (ad := ad) (c := c) h1z)
                  have HSN := Lib.hid (qmB_snoc h1)
                  have HEA := Lib.hid (qmE_at h1)
                  rw [HZA.out j h1z h1] at HSN HEA
                  obtain ⟨⟨a1, a2, a3, a4, a5, a6, a7, a8⟩, hok⟩ := HE.out wr hR
                  clear hR
                  generalize Z[j] = z at *
                  obtain ⟨x, m, k⟩ := z
                  dsimp only at a1 a2 a3 a4 a5 a6 a7 a8 hok HSN HEA
                  have HOK := Lib.hid hok
                  clear hok
                  cases hm : mM m with
                  | false =>
                    have P := Lib.hid (r7bytes_f x m wr HOK.out.1 hm)
                    have HME : Hid (qmE d.s = 70) := by rw [Hid, HM.out, HEA.out, if_neg (by rw [hm]; decide)]
                    have HE8 : Hid (qE d = 70) := by rw [Hid, HQ2.out, HME.out]; rfl
                    have HB0 : Hid (qB d = []) := by rw [Hid, qB, HE8.out]; rfl
                    clear hm
                    go_wp2_with fail
                    refine P.out.mono ?_
                    rintro r w5 ⟨rfl, hb5⟩
                    have HB5 := Lib.hid (below_on HB.out hb5)
                    clear hb5 P
                    go_wp2_with fail
                    go_ret2
                    exact ⟨none, 0, by rw [HE8.out, HB0.out]; rfl, by rw [HB0.out]; exact World.ownsRow_nil _ _ _ _, (S0.out.call HB5.out).1⟩
                  | true =>
                    have P := Lib.hid (r7bytes_t x m wr HOK.out.1 hm)
                    have hml := mL_le hm
                    have HEA2 : Hid (qmE (d.s.drop j) = if codM k = true then qmE (d.s.drop (j + 1)) else 40) := by rw [Hid, HEA.out, if_pos hm]
                    clear hm HEA
                    go_wp2_with fail
                    refine P.out.mono ?_
                    rintro r w5 ⟨A6, c6, rfl, ho6, hb6⟩
                    have HB5 := Lib.hid (below_on HB.out hb6)
                    have HO5 := Lib.hid (own_below HO.out hb6 (Nat.le_refl _))
                    have HR6 := Lib.hid (own_rd ho6 (mL_byt m))
                    have OBl : Hid (∀ b, (Value.slice A5 N c5).ownBlock = some b → b < wr.heap.size) := fun b h => (HO.out.lt b h).2
                    have hs6 := hb6.size
                    clear ho6 hb6 P HO HB a1 a2 a3 a4 a5 a6 a7 a8
                    clear z0 z1 z2 z3 z4
                    obtain ⟨z0, z1, z2, z3, z4⟩ := (S0.out.call HB5.out).2.1
                    dsimp only at z1 z2 z3
                    have hR : Rm w5 (some ad) c Z := (S0.out.call HB5.out).2.2.1.2.2.1
                    obtain ⟨⟨a1, a2, a3, a4, a5, a6, a7, a8⟩, hok⟩ := HE.out w5 hR
                    dsimp only at a1 a2 a3 a4 a5 a6 a7 a8 hok
                    have hkl : k.length = x.k := hok.2.2
                    have hri := hok.2.1
                    clear hR hok
                    cases hk : codM k with
                    | false =>
                      have P := Lib.hid (r5bytes_f x.D x.e x.k k w5 hri hkl hk)
                      have HME : Hid (qmE d.s = 40) := by rw [Hid, HM.out, HEA2.out, if_neg (by rw [hk]; decide)]
                      have HE8 : Hid (qE d = 40) := by rw [Hid, HQ2.out, HME.out]; rfl
                      have HB0 : Hid (qB d = []) := by rw [Hid, qB, HE8.out]; rfl
                      clear hk hri hkl
                      go_wp2_with fail
                      refine P.out.mono ?_
                      rintro r w6 ⟨rfl, hb7⟩
                      have HB6 := Lib.hid (below_on HB5.out hb7)
                      clear hb7 P
                      go_wp2_with fail
                      go_ret2
                      exact ⟨none, 0, by rw [HE8.out, HB0.out]; rfl, by rw [HB0.out]; exact World.ownsRow_nil _ _ _ _, (S0.out.call HB6.out).1⟩
                    | true =>
                      have P := Lib.hid (r5bytes_t x.D x.e x.k k w5 hri hkl hk)
                      have hcl := cB_le hk
                      have HCB := Lib.hid (cB_byt hk hri.1)
                      have hcp := cB_pos k
                      have HM2 : Hid (qmE d.s = qmE (d.s.drop (j + 1))) := by rw [Hid, HM.out, HEA2.out, if_pos hk]
                      clear hk hri hkl HEA2 HM
                      go_wp2_with fail
                      refine P.out.mono ?_
                      rintro r w6 ⟨A7, c7, rfl, ho7, hb7⟩
                      have HB6 := Lib.hid (below_on HB5.out hb7)
                      have HO6 := Lib.hid (own_below HO5.out hb7 (Nat.le_refl _))
                      have HR6' := Lib.hid (HR6.out.keep hb7)
                      have HR7 : Hid (Rd w6 A7 c7 (codB k) ∧ ∀ ad, A7 = some ad → wr.heap.size ≤ ad.block) := by
                        refine ⟨own_rd ho7 HCB.out, fun ad h => ?_⟩
                        obtain ⟨g, hg1, hg2⟩ := own_some ho7 hcp
                        rw [hg1] at h
                        obtain rfl := Option.some.inj h
                        show wr.heap.size ≤ g
                        omega
                      clear ho7 hb7 P HO5 HB5 HR6 HE HOK a1 a2 a3 a4 a5 a6 a7 a8
                      clear z0 z1 z2 z3 z4
                      go_wp2_with (at_builtin; refine wpList_append_rd _ rfl (.tmp 95) (.tmp 96) 28 rfl w0.heap.size 5 i0 Tryd.underlying28 hi hz0 hz1 hz2 _ N X rfl HO6.out A6 _ c6 (mL m) rfl HR6'.out rfl (by omega) HB6.out.size ?_)
                      intro A8 c8 w7 ho hg hb _
                      obtain ⟨X8, hX8⟩ : ∃ X8, X ++ mL m = X8 := ⟨_, rfl⟩
                      obtain ⟨n8, hn8⟩ : ∃ n, N + (mL m).length = n := ⟨_, rfl⟩
                      rw [hX8, hn8] at ho
                      rw [hn8]
                      have HX8 := Lib.hid hX8
                      have bn8 : n8 ≤ 579 + j * 628 + 27 := by omega
                      have HO7 := Lib.hid ho
                      have HB7 := Lib.hid (HB6.out.trans hb)
                      have HR8 := Lib.hid (HR7.out.1.grown hg (fun ad h0 _ e => by have := OBl.out _ e.symm; have := HR7.out.2 ad h0; omega))
                      clear ho hg hb HO6 HB6 HR6' HR7 OBl hX8 hn8
                      go_wp2_with (at_builtin; refine wpList_append_rd _ rfl (.tmp 98) (.tmp 99) 28 rfl w0.heap.size 5 i0 Tryd.underlying28 hi hz0 hz1 hz2 _ n8 X8 rfl HO7.out A7 _ c7 (codB k) rfl HR8.out rfl (by omega) HB7.out.size ?_)
                      intro A9 c9 w8 ho hg hb _
                      obtain ⟨X9, hX9⟩ : ∃ X9, X8 ++ codB k = X9 := ⟨_, rfl⟩
                      obtain ⟨n9, hn9⟩ : ∃ n, n8 + (codB k).length = n := ⟨_, rfl⟩
                      rw [hX9, hn9] at ho
                      rw [hn9]
                      have HX9 : Hid (X9 = poB d.g ++ (poB d.p ++ ((d.s.length : Int) :: qmB (d.s.take (j + 1))))) := by
                        rw [Hid, ← hX9, ← HX8.out, HX.out, HSN.out]
                        simp
                      have bn9 : n9 ≤ 579 + (j + 1) * 628 := by omega
                      have HO8 := Lib.hid ho
                      have HB8 := Lib.hid (HB7.out.trans hb)
                      clear ho hg hb HO7 HB7 HR8 hX9 hn9 HX8
                      go_wp2_with fail
                      go_roundw
                      case rel => exact ⟨j + 1, n9, A9, c9, X9, by omega, bn9, by go_num, rfl, HO8, HX9, HM2, HB8⟩
                      case measure => simp [intOf]; omega
                · have hjn : j = d.s.length := by omega
                  subst j
                  have HM0 : Hid (qmE d.s = 0) := by rw [Hid, HM.out, List.drop_of_length_le (Nat.le_refl _)]; rfl
                  have HQ3 : Hid (qE d = if 2000 < (qX d).length then 3 else 0) := by rw [Hid, HQ2.out, if_pos HM0.out]
                  have HX2 : Hid (X = poB d.g ++ (poB d.p ++ ((d.s.length : Int) :: qmB d.s))) := by rw [Hid, HX.out, List.take_length]
                  clear HX HM HQ2
                  have hNb : N ≤ 20000 := by omega
                  by_cases h0 : d.i < 0
                  · have HOx := Lib.hid (own_below (B := w0.heap.size) HO.out (new1 (a := .cells #[.int .u8 (255)] 5)) (Nat.le_refl _))
                    have HRx := Lib.hid (rd_one wr (255) (by omega))
                    have HBx : Hid (Below w0.heap.size w0 (wr.alloc (.cells #[.int .u8 (255)] 5))) := HB.out.alloc HB.out.size _
                    clear HO HB
                    go_wp2_with (at_builtin; refine wpList_append_rd _ rfl _ _ 28 rfl w0.heap.size 5 i0 Tryd.underlying28 hi hz0 hz1 hz2 _ N X rfl HOx.out _ 1 1 [255] rfl HRx.out rfl (by omega) HBx.out.size ?_)
                    intro A6 c6 w5 ho hg hb _
                    have HXX : Hid (X ++ [255] = qX d) := by
                      rw [Hid, HX2.out, qX, if_pos (by omega)]
                      simp
                    have hnx : N + 1 = (qX d).length := by
                      have := ho.1
                      rw [length_cel, HXX.out] at this
                      omega
                    rw [HXX.out] at ho
                    have HO5 := Lib.hid ho
                    have HB5 := Lib.hid (HBx.out.trans hb)
                    have HNX := Lib.hid hnx
                    clear ho hg hb HOx HRx HBx HX2 hnx
                    clear z0 z1 z2 z3 z4
                    by_cases hlong : 2000 < N + 1
                    · have HE8 : Hid (qE d = 3) := by rw [Hid, HQ3.out, if_pos (by rw [← HNX.out]; exact hlong)]
                      have HB0 : Hid (qB d = []) := by rw [Hid, qB, HE8.out]; rfl
                      go_wp2_with fail
                      go_ret2
                      exact ⟨none, 0, by rw [HE8.out, HB0.out]; rfl, by rw [HB0.out]; exact World.ownsRow_nil _ _ _ _, (S0.out.call HB5.out).1⟩
                    · have HE8 : Hid (qE d = 0) := by rw [Hid, HQ3.out, if_neg (by rw [← HNX.out]; exact hlong)]
                      have HB0 : Hid (qB d = qX d) := by rw [Hid, qB, HE8.out]; rfl
                      go_wp2_with fail
                      go_ret2
                      exact ⟨A6, c6, by rw [HE8.out, HB0.out, ← HNX.out]; rfl, by rw [HB0.out, ← HNX.out]; exact own_base HO5.out hs0, (S0.out.call HB5.out).1⟩
                  · have hmod : d.i % 256 = d.i := by omega
                    have HOx := Lib.hid (own_below (B := w0.heap.size) HO.out (new1 (a := .cells #[.int .u8 (d.i)] 5)) (Nat.le_refl _))
                    have HRx := Lib.hid (rd_one wr (d.i) (by omega))
                    have HBx : Hid (Below w0.heap.size w0 (wr.alloc (.cells #[.int .u8 (d.i)] 5))) := HB.out.alloc HB.out.size _
                    clear HO HB
                    go_wp2_with (at_builtin; refine wpList_append_rd _ rfl _ _ 28 rfl w0.heap.size 5 i0 Tryd.underlying28 hi hz0 hz1 hz2 _ N X rfl HOx.out _ 1 1 [d.i] rfl HRx.out rfl (by omega) HBx.out.size ?_)
                    intro A6 c6 w5 ho hg hb _
                    have HXX : Hid (X ++ [d.i] = qX d) := by
                      rw [Hid, HX2.out, qX, if_neg (by omega)]
                      simp
                    have hnx : N + 1 = (qX d).length := by
                      have := ho.1
                      rw [length_cel, HXX.out] at this
                      omega
                    rw [HXX.out] at ho
                    have HO5 := Lib.hid ho
                    have HB5 := Lib.hid (HBx.out.trans hb)
                    have HNX := Lib.hid hnx
                    clear ho hg hb HOx HRx HBx HX2 hnx
                    clear z0 z1 z2 z3 z4
                    by_cases hlong : 2000 < N + 1
                    · have HE8 : Hid (qE d = 3) := by rw [Hid, HQ3.out, if_pos (by rw [← HNX.out]; exact hlong)]
                      have HB0 : Hid (qB d = []) := by rw [Hid, qB, HE8.out]; rfl
                      go_wp2_with fail
                      go_ret2
                      exact ⟨none, 0, by rw [HE8.out, HB0.out]; rfl, by rw [HB0.out]; exact World.ownsRow_nil _ _ _ _, (S0.out.call HB5.out).1⟩
                    · have HE8 : Hid (qE d = 0) := by rw [Hid, HQ3.out, if_neg (by rw [← HNX.out]; exact hlong)]
                      have HB0 : Hid (qB d = qX d) := by rw [Hid, qB, HE8.out]; rfl
                      go_wp2_with fail
                      go_ret2
                      exact ⟨A6, c6, by rw [HE8.out, HB0.out, ← HNX.out]; rfl, by rw [HB0.out, ← HNX.out]; exact own_base HO5.out hs0, (S0.out.call HB5.out).1⟩
end Go.Proofs.YteimpkjpoijhmaaDoor
namespace Go.Proofs.YteimpkjpoijhmaaDoor
open Go.RowKit
set_option maxRecDepth 100000
set_option linter.unusedSimpArgs false
set_option linter.unusedVariables false

abbrev Mz := Mh × List Ins
def apM (K : List Mz) (r : List Mz × Int × Int) : List Mz × Int × Int := if r.2.2 = 0 then (K ++ r.1, r.2.1, 0) else ([], 0, r.2.2)
theorem apM_apM (K M : List Mz) (r : List Mz × Int × Int) : apM K (apM M r) = apM (K ++ M) r := by
  unfold apM
  by_cases h : r.2.2 = 0
  · simp [h]
  · simp [h]
theorem apM_nil (r : List Mz × Int × Int) (h : r.2.2 ≠ 0 → r = ([], 0, r.2.2)) : apM [] r = r := by
  unfold apM
  by_cases h0 : r.2.2 = 0
  · obtain ⟨a, b, c⟩ := r
    simp at h0
    subst h0
    simp
  · rw [if_neg h0]
    exact (h h0).symm
/-- So many methods, from a place on: the methods, the place behind, the error. -/
def qms (l : List Int) : Nat → Int → List Mz × Int × Int
  | 0, q => ([], q, 0)
  | k + 1, q => match rdQ l q with
    | (m, n, e) => if e = 0 then (match rdC l n with
      | (f, K, t) => if f = 0 then apM [(m, K)] (qms l k t) else ([], 0, f)) else ([], 0, e)
theorem qms_err (l : List Int) : ∀ (k : Nat) (q : Int), (qms l k q).2.2 ≠ 0 → qms l k q = ([], 0, (qms l k q).2.2)
  | 0, q => fun h => absurd rfl h
  | k + 1, q => fun h => by
    obtain ⟨m, n, e, hQ⟩ : ∃ m n e, rdQ l q = (m, n, e) := ⟨_, _, _, rfl⟩
    obtain ⟨f, K, t, hC⟩ : ∃ f K t, rdC l n = (f, K, t) := ⟨_, _, _, rfl⟩
    simp only [qms, hQ, hC] at h ⊢
    by_cases he : e = 0
    · rw [if_pos he] at h ⊢
      by_cases hf : f = 0
      · rw [if_pos hf] at h ⊢
        unfold apM at h ⊢
        by_cases hr : (qms l k t).2.2 = 0
        · rw [if_pos hr] at h
          exact absurd rfl h
        · rw [if_neg hr]
      · rw [if_neg hf]
    · rw [if_neg he]
/-- The last byte, behind the methods. -/
def qPz (l : List Int) (g p : List Vlu) (many : Int) (s : List Mz) (q : Int) : Md × Int :=
  if getE l q 1 = 0 then (if (many ≤ getV l q 1 ∧ getV l q 1 ≠ 255) ∨ getN l q 1 < l.length then (Md.zero, 80) else (⟨g, p, s, if getV l q 1 = 255 then -1 else getV l q 1⟩, 0)) else (Md.zero, getE l q 1)
def qPs (l : List Int) (g p : List Vlu) (many : Int) (r : List Mz × Int × Int) : Md × Int := if r.2.2 = 0 then qPz l g p many r.1 r.2.1 else (Md.zero, r.2.2)
def qPm (l : List Int) (g : List Vlu) (r : List Vlu × Int × Int) : Md × Int :=
  if r.2.2 = 0 then (if getE l r.2.1 1 = 0 then (if 16 < getV l r.2.1 1 then (Md.zero, 80) else qPs l g r.1 (getV l r.2.1 1) (qms l (getV l r.2.1 1).toNat (getN l r.2.1 1))) else (Md.zero, getE l r.2.1 1)) else (Md.zero, r.2.2)
def qPg (l : List Int) (r : List Vlu × Int × Int) : Md × Int := if r.2.2 = 0 then (if 4 < r.1.length then (Md.zero, 80) else qPm l r.1 (rdP l r.2.1)) else (Md.zero, r.2.2)
/-- Parse: the module, the error. -/
def qP (l : List Int) : Md × Int := if 2000 < l.length then (Md.zero, 3) else qPg l (rdP l 0)

def qOk (d : Md) : Prop := (∀ x ∈ d.g, VlOk x) ∧ (∀ x ∈ d.p, VlOk x) ∧ ∀ z ∈ d.s, ∀ x ∈ z.2, InOk x
theorem qok_of {w : World} {y : Ma} {d : Md} (h : Hq w y d) : qOk d := by
  refine ⟨h.1.1, h.2.1.1, fun z hz x hx => ?_⟩
  rw [← h.2.2.2.1] at hz
  obtain ⟨u, hu, rfl⟩ := List.mem_map.1 hz
  exact (h.2.2.1.1 u hu).2.1.1 x hx
theorem qmE_all : ∀ {s : List Mz}, qmE s = 0 → ∀ z ∈ s, mM z.1 = true ∧ codM z.2 = true
  | [], _ => fun z hz => (by cases hz)
  | y :: s, h => fun z hz => by
    rw [qmE] at h
    by_cases h1 : mM y.1 = true
    · rw [if_pos h1] at h
      by_cases h2 : codM y.2 = true
      · rw [if_pos h2] at h
        rcases List.mem_cons.1 hz with rfl | hz
        · exact ⟨h1, h2⟩
        · exact qmE_all h z hz
      · rw [if_neg h2] at h; cases h
    · rw [if_neg h1] at h; cases h
theorem qmE_mk : ∀ {s : List Mz}, (∀ z ∈ s, mM z.1 = true ∧ codM z.2 = true) → qmE s = 0
  | [], _ => rfl
  | y :: s, h => by
    rw [qmE, if_pos (h y (List.mem_cons_self ..)).1, if_pos (h y (List.mem_cons_self ..)).2]
    exact qmE_mk fun z hz => h z (List.mem_cons_of_mem _ hz)
theorem qmB_byt {s : List Mz} (h : ∀ z ∈ s, mM z.1 = true ∧ codM z.2 = true) (h0 : ∀ z ∈ s, ∀ x ∈ z.2, InOk x) : Byt (qmB s) := by
  intro y hy
  obtain ⟨z, hz, hy⟩ := List.mem_flatMap.1 hy
  rcases List.mem_append.1 hy with hy | hy
  · exact mL_byt _ y hy
  · exact cB_byt (h z hz).2 (h0 z hz) y hy
theorem drop_take_len {l Z Y : List Int} {p : Nat} (h : l.drop p = Z ++ Y) (hz : 0 < Z.length) : p ≤ l.length ∧ (l.take p).length = p ∧ l = l.take p ++ (Z ++ Y) := by
  have hp : p < l.length := by
    rcases Nat.lt_or_ge p l.length with h1 | h1
    · exact h1
    · rw [List.drop_of_length_le h1] at h
      have := congrArg List.length h
      simp at this
      omega
  exact ⟨by omega, by simp; omega, by rw [← h, List.take_append_drop]⟩
theorem qms_enc {l : List Int} : ∀ {s : List Mz} {p : Nat} {Y : List Int}, (∀ z ∈ s, mM z.1 = true ∧ codM z.2 = true) → l.drop p = qmB s ++ Y → qms l s.length p = (s, ((p + (qmB s).length : Nat) : Int), 0)
  | [], p, Y, _, _ => by simp [qms, qmB]
  | (m, K) :: s, p, Y, h, hd => by
    have hm := (h (m, K) (List.mem_cons_self ..)).1
    have hk := (h (m, K) (List.mem_cons_self ..)).2
    have hmp := mL_pos hm
    have hcp := cB_pos K
    have e1 : qmB ((m, K) :: s) = mL m ++ (codB K ++ qmB s) := by simp [qmB]
    rw [e1, List.append_assoc] at hd
    obtain ⟨hp, hpl, hl⟩ := drop_take_len hd hmp
    have hq := rdQ_enc hm (l.take p) ((codB K ++ qmB s) ++ Y)
    rw [← hl, hpl] at hq
    have hd2 : l.drop (p + (mL m).length) = codB K ++ (qmB s ++ Y) := by
      rw [← List.drop_drop, hd, List.drop_left, List.append_assoc]
    obtain ⟨hp2, hpl2, hl2⟩ := drop_take_len hd2 hcp
    have hc := rdC_enc hk (l.take (p + (mL m).length)) (qmB s ++ Y)
    rw [List.append_assoc, ← hl2, hpl2] at hc
    have hd3 : l.drop (p + (mL m).length + (codB K).length) = qmB s ++ Y := by
      rw [← List.drop_drop, hd2, List.drop_left]
    have ih := qms_enc (fun z hz => h z (List.mem_cons_of_mem _ hz)) hd3
    rw [List.length_cons, qms, hq]
    dsimp only
    rw [if_pos rfl, show (p : Int) + ((mL m).length : Int) = ((p + (mL m).length : Nat) : Int) by omega, hc]
    dsimp only
    rw [if_pos rfl, ih, apM, if_pos rfl, e1]
    simp only [List.length_append, List.singleton_append]
    rw [show p + (mL m).length + (codB K).length + (qmB s).length = p + ((mL m).length + ((codB K).length + (qmB s).length)) by omega]
theorem qms_inv {l : List Int} (hb : Byt l) : ∀ {k p : Nat} {s : List Mz} {n : Int}, p ≤ l.length → qms l k p = (s, n, 0) → s.length = k ∧ (∀ z ∈ s, mM z.1 = true ∧ codM z.2 = true) ∧ (∀ z ∈ s, ∀ x ∈ z.2, InOk x) ∧ ∃ q : Nat, n = (q : Int) ∧ q = p + (qmB s).length ∧ q ≤ l.length ∧ l.drop p = qmB s ++ l.drop q
  | 0, p, s, n, hp, h => by
    simp only [qms, Prod.mk.injEq] at h
    obtain ⟨rfl, rfl, _⟩ := h
    exact ⟨rfl, fun z hz => (by cases hz), fun z hz => (by cases hz), p, rfl, by simp [qmB], hp, by simp [qmB]⟩
  | k + 1, p, s, n, hp, h => by
    obtain ⟨m, t, e, hQ⟩ : ∃ m n e, rdQ l p = (m, n, e) := ⟨_, _, _, rfl⟩
    simp only [qms, hQ] at h
    by_cases he : e = 0
    · subst he
      rw [if_pos rfl] at h
      obtain ⟨q, hq, ht, hle, hm, hL⟩ := rdQ_ok hb hQ
      obtain rfl : p = q := by omega
      obtain ⟨f, K, u, hC⟩ : ∃ f K u, rdC l t = (f, K, u) := ⟨_, _, _, rfl⟩
      rw [hC] at h
      dsimp only at h
      by_cases hf : f = 0
      · subst hf
        rw [if_pos rfl] at h
        obtain ⟨hk, hik, h0, h1, hu, hu2, hd⟩ := rdC_inv hb hC
        obtain ⟨s', n', e', hr⟩ : ∃ s' n' e', qms l k u = (s', n', e') := ⟨_, _, _, rfl⟩
        rw [hr, apM] at h
        dsimp only at h
        by_cases he' : e' = 0
        · subst he'
          rw [if_pos rfl] at h
          simp only [Prod.mk.injEq] at h
          obtain ⟨rfl, rfl, _⟩ := h
          obtain ⟨i1, i2, i3, q', i4, i5, i6, i7⟩ := qms_inv hb hu hr
          have htn : t.toNat = p + (mL m).length := by rw [ht]; omega
          rw [htn] at hu2 hd
          have e1 : qmB ([(m, K)] ++ s') = mL m ++ (codB K ++ qmB s') := by simp [qmB]
          have hd0 : l.drop p = mL m ++ l.drop (p + (mL m).length) := by
            conv => lhs; rw [← List.take_append_drop (mL m).length (l.drop p)]
            rw [List.drop_drop, ← hL]
          refine ⟨by simp [i1], fun z hz => ?_, fun z hz => ?_, q', i4, ?_, i6, ?_⟩
          · rcases List.mem_append.1 hz with hz | hz
            · rw [List.mem_singleton.1 hz]; exact ⟨hm, hk⟩
            · exact i2 z hz
          · rcases List.mem_append.1 hz with hz | hz
            · rw [List.mem_singleton.1 hz]; exact hik
            · exact i3 z hz
          · rw [e1, i5, hu2]
            simp only [List.length_append]
            omega
          · rw [e1, hd0, hd, i7]
            simp only [List.append_assoc]
        · rw [if_neg he'] at h
          simp only [Prod.mk.injEq] at h
          exact absurd h.2.2 he'
      · rw [if_neg hf] at h
        simp only [Prod.mk.injEq] at h
        exact absurd h.2.2 hf
    · rw [if_neg he] at h
      simp only [Prod.mk.injEq] at h
      exact absurd h.2.2 he
end Go.Proofs.YteimpkjpoijhmaaDoor
namespace Go.Proofs.YteimpkjpoijhmaaDoor
open Go.RowKit
set_option maxRecDepth 100000
set_option linter.unusedSimpArgs false
set_option linter.unusedVariables false

theorem qE_parts {d : Md} (h : qE d = 0) : d.g.length ≤ 4 ∧ d.s.length ≤ 16 ∧ -1 ≤ d.i ∧ d.i < d.s.length ∧ poM d.g = true ∧ poM d.p = true ∧ qmE d.s = 0 ∧ (qX d).length ≤ 2000 := by
  unfold qE at h
  by_cases h1 : 4 < d.g.length ∨ 16 < d.s.length ∨ d.i < -1 ∨ (d.s.length : Int) ≤ d.i
  · rw [if_pos h1] at h; cases h
  · rw [if_neg h1] at h
    by_cases h2 : poM d.g = true
    · rw [if_pos h2] at h
      by_cases h3 : poM d.p = true
      · rw [if_pos h3] at h
        by_cases h4 : qmE d.s = 0
        · rw [if_pos h4] at h
          by_cases h5 : 2000 < (qX d).length
          · rw [if_pos h5] at h; cases h
          · exact ⟨by omega, by omega, by omega, by omega, h2, h3, h4, by omega⟩
        · rw [if_neg h4] at h; exact absurd h h4
      · rw [if_neg h3] at h; cases h
    · rw [if_neg h2] at h; cases h
theorem qE_mk {d : Md} (h1 : d.g.length ≤ 4) (h2 : d.s.length ≤ 16) (h3 : -1 ≤ d.i) (h4 : d.i < d.s.length) (h5 : poM d.g = true) (h6 : poM d.p = true) (h7 : qmE d.s = 0) (h8 : (qX d).length ≤ 2000) : qE d = 0 := by
  unfold qE
  rw [if_neg (by omega), if_pos h5, if_pos h6, if_pos h7, if_neg (by omega)]
/-- A module's bytes but for the last one. -/
def qH (d : Md) : List Int := poB d.g ++ (poB d.p ++ ((d.s.length : Int) :: qmB d.s))
theorem qX_H (d : Md) : qX d = qH d ++ [if d.i < 0 then 255 else d.i] := by simp [qX, qH]
theorem qH_byt {d : Md} (h : qE d = 0) (h0 : qOk d) : Byt (qH d) := by
  obtain ⟨h1, h2, h3, h4, h5, h6, h7, h8⟩ := qE_parts h
  intro y hy
  simp only [qH, List.mem_append, List.mem_cons] at hy
  rcases hy with hy | hy | rfl | hy
  · exact poB_byt (poM_le h5) y hy
  · exact poB_byt (poM_le h6) y hy
  · omega
  · exact qmB_byt (qmE_all h7) h0.2.2 y hy
theorem byt_app {a b : List Int} (h1 : Byt a) (h2 : Byt b) : Byt (a ++ b) := fun y hy => by
  rcases List.mem_append.1 hy with hy | hy
  · exact h1 y hy
  · exact h2 y hy
/-- All but the last byte is read, whatever stands behind. -/
theorem qP_to {d : Md} (h : qE d = 0) (h0 : qOk d) (R : List Int) (hR : Byt R) (hl : (qH d ++ R).length ≤ 2000) : qP (qH d ++ R) = qPz (qH d ++ R) d.g d.p d.s.length d.s ((qH d).length : Nat) := by
  have hH := qH_byt h h0
  obtain ⟨h1, h2, h3, h4, h5, h6, h7, h8⟩ := qE_parts h
  obtain ⟨l, hll⟩ : ∃ l, qH d ++ R = l := ⟨_, rfl⟩
  have hb : Byt l := by rw [← hll]; exact byt_app hH hR
  have bg := poB_byt (poM_le h5)
  have bp := poB_byt (poM_le h6)
  have bm := qmB_byt (qmE_all h7) h0.2.2
  have bn : Byt ((d.s.length : Int) :: qmB d.s ++ R) := fun y hy => by
    rcases List.mem_append.1 hy with hy | hy
    · rcases List.mem_cons.1 hy with rfl | hy
      · omega
      · exact bm y hy
    · exact hR y hy
  have e0 : l = [] ++ (poB d.g ++ (poB d.p ++ ((d.s.length : Int) :: qmB d.s ++ R))) := by rw [← hll, qH]; simp
  have e1 : l = poB d.g ++ (poB d.p ++ ((d.s.length : Int) :: qmB d.s ++ R)) := by rw [← hll, qH]; simp
  have e2 : l = (poB d.g ++ poB d.p) ++ ((d.s.length : Int) :: (qmB d.s ++ R)) := by rw [← hll, qH]; simp
  have r1 := rdP_enc h5 h0.1 [] (poB d.p ++ ((d.s.length : Int) :: qmB d.s ++ R)) (fun y hy => (by cases hy)) (byt_app bp bn)
  rw [← e0] at r1
  have r2 := rdP_enc h6 h0.2.1 (poB d.g) ((d.s.length : Int) :: qmB d.s ++ R) bg bn
  rw [← e1] at r2
  have hlen : l.length = (poB d.g).length + (poB d.p).length + 1 + (qmB d.s).length + R.length := by rw [e2]; simp; omega
  have hHl : (qH d).length = (poB d.g).length + (poB d.p).length + 1 + (qmB d.s).length := by rw [qH]; simp; omega
  obtain ⟨g1, g2, g3⟩ := get_1 hb (p := (poB d.g).length + (poB d.p).length) (by omega)
  have hat : l[(poB d.g).length + (poB d.p).length]?.getD 0 = (d.s.length : Int) := by
    rw [e2, List.getElem?_append_right (by simp)]
    simp
  rw [hat] at g2
  have hdr : l.drop ((poB d.g).length + (poB d.p).length + 1) = qmB d.s ++ R := by
    rw [← List.drop_drop, e2, show (poB d.g).length + (poB d.p).length = (poB d.g ++ poB d.p).length by simp, List.drop_left]
    rfl
  have r3 := qms_enc (qmE_all h7) hdr
  simp only [List.length_nil, Nat.zero_add, Int.ofNat_zero] at r1
  rw [hll]
  unfold qP
  rw [if_neg (by rw [← hll]; omega), r1, qPg, if_pos rfl]
  dsimp only
  rw [if_neg (by omega), r2, qPm, if_pos rfl]
  dsimp only
  rw [if_pos g1, g2, if_neg (by omega), g3, show ((d.s.length : Int)).toNat = d.s.length by omega, r3, qPs, if_pos rfl]
  dsimp only
  rw [hHl]
theorem last_byt {d : Md} (h : qE d = 0) : 0 ≤ (if d.i < 0 then 255 else d.i) ∧ (if d.i < 0 then 255 else d.i) < 256 := by
  obtain ⟨h1, h2, h3, h4, h5, h6, h7, h8⟩ := qE_parts h
  split <;> omega
theorem one_byt {x : Int} (h : 0 ≤ x ∧ x < 256) : Byt [x] := fun y hy => by rw [List.mem_singleton.1 hy]; exact h
theorem qX_byt {d : Md} (h : qE d = 0) (h0 : qOk d) : Byt (qX d) := by
  rw [qX_H]
  exact byt_app (qH_byt h h0) (one_byt (last_byt h))
theorem at_len {a : List Int} {x : Int} {b : List Int} : (a ++ x :: b)[a.length]?.getD 0 = x := by
  rw [List.getElem?_append_right (Nat.le_refl _)]
  simp
/-- What has bytes is parsed from them. -/
theorem qP_enc {d : Md} (h : qE d = 0) (h0 : qOk d) : qP (qX d) = (d, 0) := by
  obtain ⟨h1, h2, h3, h4, h5, h6, h7, h8⟩ := qE_parts h
  have hx := last_byt h
  have hX := qX_H d
  have hb := qX_byt h h0
  rw [hX] at h8 hb ⊢
  obtain ⟨x, hxe⟩ : ∃ x, (if d.i < 0 then 255 else d.i) = x := ⟨_, rfl⟩
  rw [hxe] at hx h8 hb ⊢
  obtain ⟨g1, g2, g3⟩ := get_1 hb (p := (qH d).length) (by simp)
  rw [at_len] at g2
  rw [qP_to h h0 [x] (one_byt hx) h8, qPz, if_pos g1, g2, g3]
  have hlen : (qH d ++ [x]).length = (qH d).length + 1 := by simp
  rw [hlen]
  by_cases hi : d.i < 0
  · rw [if_pos hi] at hxe
    subst hxe
    rw [if_neg (by omega), if_pos rfl]
    obtain ⟨g, p, s, i⟩ := d
    have : i = -1 := by dsimp only at h3 hi; omega
    rw [this]
  · rw [if_neg hi] at hxe
    subst hxe
    rw [if_neg (by omega), if_neg (by omega)]
/-- With one byte more they are none's. -/
theorem qP_more {d : Md} (h : qE d = 0) (h0 : qOk d) {x : Int} (hx : 0 ≤ x ∧ x < 256) : (qP (qX d ++ [x])).2 ≠ 0 := by
  by_cases hl : 2000 < (qX d ++ [x]).length
  · rw [qP, if_pos hl]
    decide
  · have hz := last_byt h
    have hb : Byt (qX d ++ [x]) := byt_app (qX_byt h h0) (one_byt hx)
    rw [qX_H, List.append_assoc] at hl hb ⊢
    obtain ⟨u, hu⟩ : ∃ u, (if d.i < 0 then 255 else d.i) = u := ⟨_, rfl⟩
    rw [hu] at hl hb hz ⊢
    obtain ⟨g1, g2, g3⟩ := get_1 hb (p := (qH d).length) (by simp)
    rw [qP_to h h0 ([u] ++ [x]) (byt_app (one_byt hz) (one_byt hx)) (by omega), qPz, if_pos g1, g3, if_pos (by right; simp)]
    decide
/-- Without the last byte: ErrShort. -/
theorem qP_cut {d : Md} (h : qE d = 0) (h0 : qOk d) : qP ((qX d).take ((qX d).length - 1)) = (Md.zero, 10) := by
  obtain ⟨h1, h2, h3, h4, h5, h6, h7, h8⟩ := qE_parts h
  rw [qX_H] at h8 ⊢
  have e : (qH d ++ [if d.i < 0 then 255 else d.i]).take ((qH d ++ [if d.i < 0 then 255 else d.i]).length - 1) = qH d ++ [] := by simp
  rw [e, qP_to h h0 [] (fun y hy => (by cases hy)) (by simp at h8 ⊢; omega), qPz]
  have g := get_short (l := qH d ++ []) (p := ((qH d).length : Int)) (W := 1) (by omega) (by omega) (by simp) (by simp)
  rw [if_neg (by rw [g]; decide), g]
/-- What is parsed has just those bytes. -/
theorem qP_inv {l : List Int} (hb : Byt l) {d : Md} (h : qP l = (d, 0)) : qE d = 0 ∧ qX d = l ∧ qOk d := by
  unfold qP at h
  by_cases hl : 2000 < l.length
  · rw [if_pos hl] at h
    simp at h
  · rw [if_neg hl] at h
    obtain ⟨g, a, e, h1⟩ : ∃ g a e, rdP l 0 = (g, a, e) := ⟨_, _, _, rfl⟩
    rw [h1, qPg] at h
    dsimp only at h
    by_cases he : e = 0
    · subst he
      rw [if_pos rfl] at h
      by_cases hg : 4 < g.length
      · rw [if_pos hg] at h; simp at h
      · rw [if_neg hg] at h
        obtain ⟨p1, p2, i, q, hi, hq, hql, hqi, hd⟩ := rdP_inv hb h1
        obtain rfl : i = 0 := by omega
        obtain ⟨p, a2, e2, h2⟩ : ∃ g b e, rdP l a = (g, b, e) := ⟨_, _, _, rfl⟩
        rw [h2, qPm] at h
        dsimp only at h
        by_cases he2 : e2 = 0
        · subst he2
          rw [if_pos rfl] at h
          obtain ⟨p3, p4, i2, q2, hi2, hq2, hql2, hqi2, hd2⟩ := rdP_inv hb h2
          obtain rfl : i2 = q := by omega
          by_cases hg1 : getE l a2 1 = 0
          · rw [if_pos hg1] at h
            obtain ⟨b1, b2⟩ := getE_1 hg1
            rw [hq2] at b1 b2 hg1 h
            have b3 : q2 < l.length := by omega
            obtain ⟨-, v1, n1⟩ := get_1 hb b3
            rw [v1, n1] at h
            obtain ⟨x, hx⟩ : ∃ x, l[q2]?.getD 0 = x := ⟨_, rfl⟩
            have hxb : 0 ≤ x ∧ x < 256 := by
              rw [List.getElem?_eq_getElem b3] at hx
              rw [← hx]
              exact hb _ (List.getElem_mem b3)
            rw [hx] at h
            by_cases hx16 : 16 < x
            · rw [if_pos hx16] at h; simp at h
            · rw [if_neg hx16] at h
              obtain ⟨s, a3, e3, h3⟩ : ∃ s a e, qms l x.toNat ((q2 + 1 : Nat) : Int) = (s, a, e) := ⟨_, _, _, rfl⟩
              rw [h3, qPs] at h
              dsimp only at h
              by_cases he3 : e3 = 0
              · subst he3
                rw [if_pos rfl, qPz] at h
                obtain ⟨m1, m2, m3, q3, hq3, hqe, hql3, hd3⟩ := qms_inv hb (by omega) h3
                by_cases hg2 : getE l a3 1 = 0
                · rw [if_pos hg2] at h
                  obtain ⟨b4, b5⟩ := getE_1 hg2
                  rw [hq3] at b4 b5 hg2 h
                  have b6 : q3 < l.length := by omega
                  obtain ⟨-, v2, n2⟩ := get_1 hb b6
                  rw [v2, n2] at h
                  obtain ⟨y, hy⟩ : ∃ y, l[q3]?.getD 0 = y := ⟨_, rfl⟩
                  have hyb : 0 ≤ y ∧ y < 256 := by
                    rw [List.getElem?_eq_getElem b6] at hy
                    rw [← hy]
                    exact hb _ (List.getElem_mem b6)
                  rw [hy] at h
                  by_cases hlast : (x ≤ y ∧ y ≠ 255) ∨ ((q3 + 1 : Nat) : Int) < l.length
                  · rw [if_pos hlast] at h; simp at h
                  · rw [if_neg hlast] at h
                    simp only [Prod.mk.injEq, and_true] at h
                    have hsx : (s.length : Int) = x := by omega
                    have hend : l.length = q3 + 1 := by omega
                    have hd4 : l.drop q3 = [y] := by
                      rw [List.drop_eq_getElem_cons b6, List.drop_of_length_le (by omega)]
                      rw [List.getElem?_eq_getElem b6] at hy
                      rw [show l[q3] = y from hy]
                    have hd5 : l.drop q2 = x :: l.drop (q2 + 1) := by
                      rw [List.drop_eq_getElem_cons b3]
                      rw [List.getElem?_eq_getElem b3] at hx
                      rw [show l[q2] = x from hx]
                    have hdi : (if d.i < 0 then 255 else d.i) = y := by
                      rw [← h]
                      dsimp only
                      by_cases h255 : y = 255
                      · rw [if_pos h255, if_pos (by omega)]; omega
                      · rw [if_neg h255, if_neg (by omega)]
                    have hXl : qX d = l := by
                      rw [qX_H, hdi, ← h, qH]
                      dsimp only
                      rw [hsx]
                      have := hd
                      rw [List.drop_zero, hd2, hd5, hd3, hd4] at this
                      rw [this]
                      simp
                    have hdi2 : -1 ≤ d.i ∧ d.i < d.s.length := by
                      rw [← h]
                      dsimp only
                      rw [hsx]
                      by_cases h255 : y = 255
                      · rw [if_pos h255]; omega
                      · rw [if_neg h255]; omega
                    refine ⟨qE_mk ?_ ?_ hdi2.1 hdi2.2 ?_ ?_ ?_ (by rw [hXl]; omega), hXl, ?_⟩
                    · rw [← h]; dsimp only; omega
                    · rw [← h]; dsimp only; omega
                    · rw [← h]; exact p1
                    · rw [← h]; exact p3
                    · rw [← h]; exact qmE_mk m2
                    · rw [← h]; exact ⟨p2, p4, m3⟩
                · rw [if_neg hg2] at h
                  simp only [Prod.mk.injEq] at h
                  exact absurd h.2 hg2
              · rw [if_neg he3] at h
                simp only [Prod.mk.injEq] at h
                exact absurd h.2 he3
          · rw [if_neg hg1] at h
            simp only [Prod.mk.injEq] at h
            exact absurd h.2 hg1
        · rw [if_neg he2] at h
          simp only [Prod.mk.injEq] at h
          exact absurd h.2 he2
    · rw [if_neg he] at h
      simp only [Prod.mk.injEq] at h
      exact absurd h.2 he
/-- Two modules that may be with the same bytes are the same. -/
theorem qX_inj {a b : Md} (ha : qE a = 0) (hb : qE b = 0) (h0 : qOk a) (h1 : qOk b) (h : qX a = qX b) : a = b := by
  have h2 := qP_enc ha h0
  rw [h, qP_enc hb h1] at h2
  simpa using h2.symm
end Go.Proofs.YteimpkjpoijhmaaDoor
namespace Go.Proofs.YteimpkjpoijhmaaDoor
open Go.RowKit
set_option maxRecDepth 100000
set_option linter.unusedSimpArgs false
set_option linter.unusedVariables false

def KMBytes (F : Fct) : Prop := ∀ (y : Ma) (d : Md) (w : World), F.p w → Hq w y d → qG d = false → Calls Tryd.prog 11 #[dv y d] w fun r w' => ∃ A c, r = .returned (.tuple #[.slice A (qB d).length c, .int .i64 (qE d)]) ∧
    w'.ownsRow w.heap.size 5 1 (.slice A (qB d).length c) (qB d).length (cel (qB d)) ∧ Below w.heap.size w w'
def KMMay (F : Fct) : Prop := ∀ (y : Ma) (d : Md) (w : World), F.p w → Hq w y d → qG d = false → Calls Tryd.prog 12 #[dv y d] w fun r w' => r = .returned (.int .i64 (qE d)) ∧ Below w.heap.size w w'
def KMSame (F : Fct) : Prop := ∀ (y t : Ma) (d e : Md) (w : World), F.p w → Hq w y d → Hq w t e → qG d = false → qG e = false → Calls Tryd.prog 13 #[dv y d, dv t e] w fun r w' => r = .returned (.bool (qS d e)) ∧ Below w.heap.size w w'
def KMParse (F : Fct) : Prop := ∀ (A : Option Addr) (c n : Nat) (l : List Int) (w : World), F.p w → Rd w A c l → l.length = n → n ≤ 3001 → Calls Tryd.prog 16 #[.slice A n c] w fun r w' => ∃ y, r = .returned (.tuple #[dv y (qP l).1, .int .i64 (qP l).2]) ∧ Hq w' y (qP l).1 ∧ Below w.heap.size w w'
def KMCopy (F : Fct) : Prop := ∀ (y : Ma) (d : Md) (w : World), F.p w → Hq w y d → qG d = false → Calls Tryd.prog 24 #[dv y d] w fun r w' => ∃ t, r = .returned (dv t d) ∧ Hq w' t d ∧ Below w.heap.size w w'
theorem qE_qG {d : Md} (h : qE d = 0) : qG d = false := by
  obtain ⟨h1, h2, h3, h4, h5, h6, h7, h8⟩ := qE_parts h
  have hs : d.s.any qgE = false := by
    rw [List.any_eq_false]
    intro z hz
    have hz2 := qmE_all h7 z hz
    have hm := mM_iff.1 hz2.1
    have hk := codM_parts hz2.2
    simp [qgE, gB]
    omega
  have := poM_le h6
  simp [qG, hs]
  omega
/-- Is parsing some bytes told that error? -/
def tl8 (l : List Int) (e : Int) : Bool := (qP l).2 == e && qS (qP l).1 Md.zero
set_option maxHeartbeats 2000000 in
theorem told8_v (F : Fct) (KP : KMParse F) (A : Option Addr) (c n : Nat) (l : List Int) (e : Int) (v : Bool) (w : World) (hw : F.p w) (hr : Rd w A c l) (hn : l.length = n) (hl : n ≤ 3001) (hv : tl8 l e = v) :
    Calls Tryd.prog 19 #[.int .i64 e, .slice A n c] w fun x w' => x = .returned (.bool v) ∧ Below w.heap.size w w' := by
  have HV := Lib.hid hv
  have P1 := Lib.hid (KP A c n l w hw hr hn hl)
  rw [tl8] at HV
  obtain ⟨d, hd⟩ : ∃ d, (qP l).1 = d := ⟨_, rfl⟩
  obtain ⟨e0, he⟩ : ∃ e0, (qP l).2 = e0 := ⟨_, rfl⟩
  rw [hd, he] at HV P1
  clear hw hr hn hl hv hd he
  go_enter Tryd.func19, Tryd.ntmps19
  go_wp2_with fail
  refine P1.out.mono ?_
  rintro x w1 ⟨y, rfl, h1, hb1⟩
  have S1 := Lib.hid ((((Sx.start w).call hb1).add (fQm y d) h1).mkD y d)
  clear P1 h1 hb1
  obtain ⟨z0, z1, z2, z3, z4⟩ := S1.out.2.1
  by_cases hq : e0 = e
  · have E : (e0 == e) = true := by simpa using hq
    rw [E] at HV
    clear hq
    go_wp2_with fail
    refine (r8same_v y Ma.zero d Md.zero (qS d Md.zero) _ S1.out.2.2.1 (Hq.zero _) rfl).mono ?_
    rintro x w2 ⟨rfl, hb2⟩
    have S2 := Lib.hid (S1.out.call hb2)
    clear hb2 S1 z0 z1 z2 z3 z4
    go_wp2_with fail
    go_ret
    exact ⟨by rw [← HV.out]; simp, S2.out.1⟩
  · have E : (e0 == e) = false := by simpa using hq
    rw [E] at HV
    clear hq
    go_wp2_with fail
    go_ret
    exact ⟨by rw [← HV.out]; simp, S1.out.1⟩
def dsmall : Md := ⟨[(1, 0, 0)], [], [(⟨[], [], 1, false, 2, 1, 0⟩, [(4, 0, 0), (31, 0, 0)])], -1⟩
def ysmall (B : Nat) : Ma := ⟨some ⟨B, 0, none⟩, 1, none, 0, some ⟨B + 2, 0, none⟩, 1, [⟨⟨none, 0, none, 0, some ⟨B + 1, 0, none⟩, 2, 2⟩, ⟨[], [], 1, false, 2, 1, 0⟩, [(4, 0, 0), (31, 0, 0)]⟩]⟩
theorem small_facts (w : World) (o0 : Obj) : Hq ((((w.alloc o0).alloc (.cells #[.int .u8 1, .int .i64 0, .int .i64 0] 67)).alloc (.cells #[.int .u8 4, .int .i64 0, .int .i64 0, .int .u8 31, .int .i64 0, .int .i64 0] 86)).alloc
    (.cells #[.slice none 0 0, .slice none 0 0, .int .u8 1, .bool false, .int .i64 2, .int .i64 1, .int .i64 0, .slice (some ⟨w.heap.size + 1 + 1, 0, none⟩) 2 2] 49)) (ysmall (w.heap.size + 1)) dsmall := by
  have h1 := rv_new (w.alloc o0) (1, 0, 0) (by unfold VlOk; decide)
  rw [size1] at h1
  have h2 := (Ri.of_own (L := [(4, 0, 0), (31, 0, 0)]) (World.ownsRow_lit (base := 0) (e := 86) (size := 3) ((w.alloc o0).alloc (.cells #[.int .u8 1, .int .i64 0, .int .i64 0] 67)) (cei [(4, 0, 0), (31, 0, 0)]).toArray 2 (Nat.zero_le _) (by unfold maxLen; omega) (by simp [cei])) (by
    intro x hx
    simp at hx
    rcases hx with rfl | rfl <;> (unfold InOk; decide))).1
  rw [size1, size1] at h2
  refine ⟨(h1.keep new1).keep new1, Rv.none_ _, ⟨?_, Nat.le_refl _, (by show (1 : Nat) ≤ maxLen; unfold maxLen; decide), .inr ⟨_, rfl, ?_⟩⟩, rfl, by unfold dsmall; decide⟩
  · intro z hz
    have hz := List.mem_singleton.1 hz
    subst hz
    exact ⟨⟨Rd.none_ _, Rd.none_ _, (by unfold Mh.nums; decide : (⟨[], [], 1, false, 2, 1, 0⟩ : Mh).nums)⟩, h2.keep new1, rfl⟩
  · intro i z hz
    match i, hz with
    | 0, hz =>
      simp [ysmall] at hz
      subst hz
      unfold At8
      refine ⟨?_, ?_, ?_, ?_, ?_, ?_, ?_, ?_⟩ <;> simp [go_sem, Addr.add]
theorem small_v (w : World) : Calls Tryd.prog 48 #[] w fun e w' => e = .returned (dv (ysmall (w.heap.size + 1)) dsmall) ∧ Hq w' (ysmall (w.heap.size + 1)) dsmall ∧ Below w.heap.size w w' := by
  go_enter Tryd.func48, Tryd.ntmps48
  go_wp2_with fail
  have hf := small_facts w (.cells #[.slice (some ⟨w.heap.size + 1, 0, none⟩) 1 1, .slice none 0 0, .slice (some ⟨w.heap.size + 1 + 1 + 1, 0, none⟩) 1 1, .int .i64 (-1)] 25)
  exact bodyPost_ret (v := dv (ysmall (w.heap.size + 1)) dsmall) (by simp [results, Tryd.results48, go_sem, ysmall, dsmall]) rfl ⟨rfl, hf, ((new1.alloc (by simp) _).alloc (by simp; omega) _).alloc (by simp; omega) _⟩
set_option maxHeartbeats 4000000 in
theorem awake8_any (F : Fct) (KB : KMBytes F) (KP : KMParse F) (w : World) (hw : F.p w) : Calls Tryd.prog 18 #[] w fun e w' => e = .returned (.bool true) ∧ Below w.heap.size w w' := by
  have B1 : Hid (qB dsmall = [1, 1, 0, 0, 0, 0, 0, 0, 0, 0, 0, 1, 0, 0, 1, 0, 2, 0, 0, 1, 0, 0, 0, 2, 4, 0, 0, 31, 255] ∧ qE dsmall = 0 ∧ qG dsmall = false) := by unfold Hid; decide
  have T1 : Hid (tl8 [] 10 = true) := by unfold Hid; decide
  have T2 : Hid (tl8 [0, 0, 0, 0] 80 = true) := by unfold Hid; decide
  have T3 : Hid (tl8 [0, 0, 0, 255, 0] 80 = true) := by unfold Hid; decide
  have S0 := Lib.hid ((Sx.start w).add F hw)
  clear hw
  go_enter Tryd.func18, Tryd.ntmps18
  go_wp2_with fail
  refine (small_v _).mono ?_
  rintro e w1 ⟨rfl, h1, hb1⟩
  have S1 := Lib.hid ((S0.out.call hb1).add (fQm (ysmall (w.heap.size + 1)) dsmall) h1)
  clear h1 hb1 S0
  have P1 := Lib.hid (KB _ _ _ S1.out.2.2.1 S1.out.2.1 B1.out.2.2)
  rw [B1.out.1, B1.out.2.1] at P1
  go_wp2_with fail
  refine P1.out.mono ?_
  rintro e w3 ⟨A3, c3, rfl, ho3, hb3⟩
  have S3 := Lib.hid ((S1.out.call hb3).add (fR A3 c3 [1, 1, 0, 0, 0, 0, 0, 0, 0, 0, 0, 1, 0, 0, 1, 0, 2, 0, 0, 1, 0, 0, 0, 2, 4, 0, 0, 31, 255]) (own_rd ho3 (byt_of rfl)))
  clear S1 hb3 ho3 P1 B1
  rw [show ([1, 1, 0, 0, 0, 0, 0, 0, 0, 0, 0, 1, 0, 0, 1, 0, 2, 0, 0, 1, 0, 0, 0, 2, 4, 0, 0, 31, 255] : List Int).length = 29 from rfl]
  have k1 : (convert 28 9 (.slice A3 29 c3)).run Tryd.prog w3 = .ok (.string ⟨#[1, 1, 0, 0, 0, 0, 0, 0, 0, 0, 0, 1, 0, 0, 1, 0, 2, 0, 0, 1, 0, 0, 0, 2, 4, 0, 0, 31, 255]⟩) w3 := rd_string (P := Tryd.prog) S3.out.2.1 28 9 5 Tryd.underlying28 Tryd.underlying5 Tryd.underlying9
  go_wp2_with fail
  have Q1 := Lib.hid (told8_v F KP none 0 0 [] 10 true w3 S3.out.2.2.2.1 (Rd.none_ _) rfl (by decide) T1.out)
  refine Q1.out.mono ?_
  rintro e w4 ⟨rfl, hb4⟩
  have S4 := Lib.hid (S3.out.call hb4)
  clear S3 hb4 Q1 k1
  go_wp2_with fail
  have Q2 := Lib.hid (told8_v F KP (some ⟨w4.heap.size, 0, none⟩) 4 4 [0, 0, 0, 0] 80 true _ (F.keep _ _ S4.out.2.2.2.1 new1) (rd_lit w4 [0, 0, 0, 0] (byt_of rfl) (by decide)) rfl (by decide) T2.out)
  refine Q2.out.mono ?_
  rintro e w5 ⟨rfl, hb5⟩
  have S5 := Lib.hid (S4.out.call (below1 hb5))
  clear S4 hb5 Q2
  go_wp2_with fail
  have Q3 := Lib.hid (told8_v F KP (some ⟨w5.heap.size, 0, none⟩) 5 5 [0, 0, 0, 255, 0] 80 true _ (F.keep _ _ S5.out.2.2.2.1 new1) (rd_lit w5 [0, 0, 0, 255, 0] (byt_of rfl) (by decide)) rfl (by decide) T3.out)
  refine Q3.out.mono ?_
  rintro e w6 ⟨rfl, hb6⟩
  have S6 := Lib.hid (S5.out.call (below1 hb6))
  clear S5 hb6 Q3
  go_wp2_with fail
  go_ret
  exact ⟨rfl, S6.out.1⟩
end Go.Proofs.YteimpkjpoijhmaaDoor
