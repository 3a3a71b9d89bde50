/-
  Layer 12: law CostJust.
-/
import Derived.Test.YtmgppdjbmhjmbaaGreatLjy
import Derived.Test.YtmgppdjbmhjmbaaGreatEy
namespace Go.Proofs.YtmgppdjbmhjmbaaGreat
open Go.RowKit
set_option maxRecDepth 100000
set_option linter.unusedSimpArgs false
set_option linter.unusedVariables false

theorem sr12_no {L : List Ins} {p : Nat} (hp : p < L.length) (h : sq12 L.length (iO9 L p) p = false) : sr12 L = false := by
  unfold sr12
  rw [List.all_eq_false]
  exact ⟨p, List.mem_range.2 hp, by rw [h]; simp⟩
theorem sr12_yes {L : List Ins} (h : ∀ p, p < L.length → sq12 L.length (iO9 L p) p = true) : sr12 L = true := by
  unfold sr12
  rw [List.all_eq_true]
  intro p hp
  exact h p (List.mem_range.1 hp)
abbrev fRn12 (A : Option Addr) (c : Nat) (L : List Int) : Fct := ⟨fun w => Rn w A c L, fun _ _ h hb => h.keep hb⟩
set_option maxHeartbeats 16000000 in
theorem straight12_v (A : Option Addr) (c n : Nat) (L : List Ins) (w : World) (hr : Ri w A c L) (hn : L.length = n) (h3 : n ≤ 300) : Calls Tryz.prog 9 #[.slice A n c] w fun r w' => r = .returned (.bool (sr12 L)) ∧ Below w.heap.size w w' := by
  have HR := Lib.hid hr
  have HN := Lib.hid hn
  clear hr hn
  go_enter Tryz.func9, Tryz.ntmps9
  go_upto_region 2 with (fail)
  go_loopw [3] (fun iv we => ∃ i : Nat, i ≤ n ∧ iv = .int .i64 i ∧ Hid (∀ p, p < i → sq12 n (iO9 L p) p = true) ∧ Hid (Below w.heap.size w we)) (fun iv _ => n - (intOf iv).toNat)
  case atStart => exact ⟨0, by omega, rfl, Lib.hid (fun p h => absurd h (Nat.not_lt_zero _)), Lib.hid (Below.refl _ _)⟩
  case round =>
    obtain ⟨i, hi, rfl, HP, HB⟩ := hrel
    rename World => we
    by_cases hin : i < n
    case neg =>
      have hni : i = n := by omega
      have HNI := Lib.hid hni
      have e1 : decide ((i : Int) < n) = false := by simp; omega
      have HSY : Hid (sr12 L = true) := Lib.hid (sr12_yes fun p hp => by rw [HN.out] at hp ⊢; exact HP.out p (by omega))
      clear hni
      go_wp2_with fail
      go_ret
      exact ⟨by rw [HSY.out]; rfl, HB.out⟩
    case pos =>
      have e1 : decide ((i : Int) < n) = true := by simp; omega
      have hil : i < L.length := by rw [HN.out]; exact hin
      obtain ⟨ad, hA, q0, q1, q2⟩ := (HR.out.keep HB.out).at_ hil
      have hoo : iO9 L i = (L[i]).1 := by rw [iO9, List.getElem?_eq_getElem hil]; rfl
      obtain ⟨⟨o, a, z⟩, hL⟩ : ∃ x, L[i] = x := ⟨_, rfl⟩
      rw [hL] at q0 q1 q2 hoo
      dsimp only at q0 q1 q2 hoo
      have HNO : Hid (sq12 n o i = false → sr12 L = false) := Lib.hid (fun h => sr12_no hil (by rw [hoo, HN.out]; exact h))
      have HYE : Hid (sq12 n o i = true → ∀ p, p < i + 1 → sq12 n (iO9 L p) p = true) := Lib.hid (fun h p hp => by
        by_cases hpi : p = i
        · rw [hpi, hoo]; exact h
        · exact HP.out p (by omega))
      subst hA
      clear hil hoo hL
      have e2 : IntKind.i64.wrap ((n : Int) - 1) = (n : Int) - 1 := by rw [wrap_small (by omega)]
      have e3 : IntKind.i64.wrap ((i : Int) + 1) = (i : Int) + 1 := by rw [wrap_small (by omega)]
      go_upto_region 5 with (fail)
      obtain ⟨wf, hwf⟩ : ∃ wf, we.alloc (.cells #[.int .u8 o, .int .i64 a, .int .i64 z] 67) = wf := ⟨_, rfl⟩
      have hj : wf.cell? ⟨we.heap.size, 0, none⟩ = some (.int .u8 o) := by rw [← hwf]; simp [go_sem]
      have HBF : Hid (Below w.heap.size w wf) := Lib.hid (below_on HB.out (by rw [← hwf]; exact new1))
      rw [hwf]
      clear hwf q0 q1 q2 HB
      generalize we.heap.size = I at hj ⊢
      by_cases h26 : o = 26
      · subst h26
        have HF := Lib.hid (HNO.out rfl)
        go_wp2_with fail
        go_ret
        exact ⟨by rw [HF.out]; rfl, HBF.out⟩
      by_cases h27 : o = 27
      · subst h27
        have HF := Lib.hid (HNO.out rfl)
        go_wp2_with fail
        go_ret
        exact ⟨by rw [HF.out]; rfl, HBF.out⟩
      have g26 : (o == 26) = false := by simpa using h26
      have g27 : (o == 27) = false := by simpa using h27
      by_cases h32 : o = 32
      · subst h32
        have HF := Lib.hid (HNO.out (by simp [sq12]))
        by_cases hl : i + 1 < n
        · have e4 : decide ((i : Int) < (n : Int) - 1) = true := by simp; omega
          go_wp2_with fail
          go_ret
          exact ⟨by rw [HF.out]; rfl, HBF.out⟩
        · have e4 : decide ((i : Int) < (n : Int) - 1) = false := by simp; omega
          go_wp2_with fail
          go_ret
          exact ⟨by rw [HF.out]; rfl, HBF.out⟩
      have g32 : (o == 32) = false := by simpa using h32
      by_cases h31 : o = 31
      · subst h31
        by_cases hl : i + 1 < n
        · have HF := Lib.hid (HNO.out (by simp [sq12, hl]))
          have e4 : decide ((i : Int) < (n : Int) - 1) = true := by simp; omega
          go_wp2_with fail
          go_ret
          exact ⟨by rw [HF.out]; rfl, HBF.out⟩
        · have HF := Lib.hid (HYE.out (by simp [sq12, hl]))
          have e4 : decide ((i : Int) < (n : Int) - 1) = false := by simp; omega
          go_wp2_with fail
          exact ⟨⟨i + 1, by omega, by go_num, HF, HBF⟩, by simp [intOf]; omega⟩
      have g31 : (o == 31) = false := by simpa using h31
      have HF := Lib.hid (HYE.out (by simp [sq12, g26, g27, g31, g32]))
      clear h26 h27 h31 h32
      go_wp2_with fail
      exact ⟨⟨i + 1, by omega, by go_num, HF, HBF⟩, by simp [intOf]; omega⟩
theorem Md12.code {w : World} {y : Ma} {d : Md} {ad8 : Addr} {gR c : Nat} {R : List Rr12} (M : Md12 w y d ad8 gR c R) {k : Nat} (hk : k < d.s.length) : ∃ D e, w.cell? ⟨(ad8.add (k * 8)).block, (ad8.add (k * 8)).off + 7, none⟩ = some (.slice D (co11 d k).length e) ∧ Ri w D e (co11 d k) := by
  have hz : k < y.Z.length := by rw [M.q.zlen]; exact hk
  obtain ⟨ad, hA, hat, hok⟩ := M.q.2.2.1.at_ hz
  have e : ad8 = ad := by have h1 := M.a; rw [hA] at h1; injection h1 with h1; exact h1.symm
  subst e
  have hm := M.q.zat hz hk
  rw [me_at12 hk] at hm
  generalize y.Z[k] = zm at hat hm hok
  obtain ⟨x, m, L⟩ := zm
  have hm2 : co11 d k = L := congrArg Prod.snd hm
  subst hm2
  refine ⟨x.D, x.e, ?_, hok.2.1⟩
  have := hat.2.2.2.2.2.2.2
  rw [show x.k = (co11 d k).length from hok.2.2.symm] at this
  exact this
theorem le11_mem {d : Md} (h : (ro11 d).2 = 0) {k : Nat} (hk : k < d.s.length) {x : Int} (hx : x ∈ (le11 d k).1) : ∃ j : Nat, x = j ∧ j < d.s.length ∧ Le11 (e11 d) d.s.length k j := by
  have h2 := hx
  rw [le11, if_pos h, if_neg (by omega)] at h2
  simp only [List.mem_map, List.mem_filter, List.mem_range] at h2
  obtain ⟨j, ⟨hj, -⟩, rfl⟩ := h2
  exact ⟨j, rfl, hj, (le11_iff h hk).1 hx⟩
theorem le11_0 {d : Md} (h : (ro11 d).2 = 0) {k : Nat} (hk : k < d.s.length) : (le11 d k).2 = 0 := by
  rw [le11, if_pos h, if_neg (by omega)]
set_option maxHeartbeats 16000000 in
theorem just12_walk (y : Ma) (d : Md) (k0 : Int) (w : World) (hq : Hq w y d) : Calls Tryz.prog 3 #[dv y d, .int .i64 k0] w fun r w' => r = .returned (.bool true) ∧ Below w.heap.size w w' := by
  have S0 := Lib.hid ((((Sx.start w).add (fQm y d) hq).mkD y d))
  obtain ⟨B, hB⟩ : ∃ B, w.heap.size = B := ⟨_, rfl⟩
  have HBB := Lib.hid hB
  rw [hB] at S0
  clear hq
  go_enter Tryz.func3, Tryz.ntmps3
  go_upto_region 1 with (fail)
  change Code.wp _ _ _ _ (w.alloc (dcel y d))
  generalize w.alloc (dcel y d) = w1 at S0 ⊢
  clear hB
  have HAW := Lib.hid (awake12_v w1)
  go_wp2_with fail
  refine HAW.out.mono ?_
  rintro r w2 ⟨rfl, hb⟩
  have S2 := Lib.hid (S0.out.call hb)
  clear HAW hb S0
  have HKN := Lib.hid (known12_v y d k0 w2 S2.out.2.2.1)
  obtain ⟨-, ⟨d0, d1, d2, d3, d4⟩, -⟩ := S2.out
  go_wp2_with fail
  refine HKN.out.mono ?_
  rintro r w3 hkw
  clear HKN d0 d1 d2 d3 d4
  rcases hkw with ⟨rfl, hb⟩ | ⟨k, rfl, K, A, c, R, A3, c3, rfl, hrg, hrl, hrq, hce, hb⟩
  · have S3 := Lib.hid (S2.out.call hb)
    clear hb S2
    go_wp2_with fail
    go_ret
    exact ⟨rfl, S3.out.1⟩
  have hz := (S2.out.call hb).2.2.1.zlen
  have S3 := Lib.hid ((((S2.out.call hb).add (fRg ce3 3 A3 c3 (cs12 d)) hce).add (fRr12 A c R) hrg).add (fRq12 d R) hrq)
  have hkl := K.lt
  obtain ⟨gR, rfl⟩ := hrg.some_ (by rw [hrl]; omega)
  obtain ⟨gC, rfl⟩ := hce.some_ (by rw [cs12_len]; omega)
  have HH : Hid (Ok12 d) := Lib.hid (Ok12.of K.co)
  have HK := Lib.hid K
  obtain ⟨hs40, hbd⟩ := qG_b12 K.qg
  have HBD := Lib.hid hbd
  obtain ⟨sn, hsn⟩ : ∃ sn, d.s.length = sn := ⟨_, rfl⟩
  have HSN := Lib.hid hsn
  obtain ⟨yG, yg, yP, yp, AA, cc, Z⟩ := y
  obtain ⟨ad8, hA, hat, hok⟩ := S3.out.2.2.2.2.2.1.2.2.1.at_ (i := k) (by rw [hz]; exact hkl)
  dsimp only at hA
  subst hA
  have HRL := Lib.hid hrl
  have HM : Hid (Md12 w3 ⟨yG, yg, yP, yp, some ad8, cc, Z⟩ d ad8 gR c R) := Lib.hid ⟨S3.out.2.2.2.2.2.1, rfl, hrg, hrl, hrq⟩
  have HLT := Lib.hid (leadsT_v ⟨yG, yg, yP, yp, some ad8, cc, Z⟩ d k w3 S3.out.2.2.2.2.2.1 (by omega) (fun z hz => by have := (hbd z hz).2.2; omega))
  rw [dv, HSN.out] at HLT
  rw [hsn] at hkl hs40 ⊢
  clear hb S2 hrg hrl hrq hce hz hsn K hat hok hbd
  obtain ⟨-, -, -, -, ⟨d0, d1, d2, d3, d4⟩, -⟩ := S3.out
  dsimp only at d1 d2 d3
  rw [HSN.out] at d3
  go_wp2_with fail
  refine HLT.out.mono ?_
  rintro r w4 ⟨AT, cT, rfl, hoT, hb⟩
  have HRO : Hid ((ro11 d).2 = 0) := Lib.hid HH.out.ro
  rw [le11_0 HRO.out HK.out.lt]
  obtain ⟨TL, hTL⟩ : ∃ TL, (le11 d k).1 = TL := ⟨_, rfl⟩
  have HTL := Lib.hid hTL
  rw [hTL] at hoT ⊢
  obtain ⟨tn, htn⟩ : ∃ tn, TL.length = tn := ⟨_, rfl⟩
  have HTN := Lib.hid htn
  have S4 := Lib.hid ((S3.out.call hb).add (fRn12 AT cT TL) (Rn.of_own hoT).1)
  have HM4 := Lib.hid (HM.out.keep hb)
  have htb : tn ≤ 9223372036854775807 := by
    have h := (Rn.of_own hoT).1
    have h1 := h.1
    have h2 := h.2.1
    unfold maxLen at h2
    omega
  rw [htn]
  clear HLT hb S3 HM hoT hTL htn d0 d1 d2 d3 d4
  obtain ⟨-, -, -, -, -, ⟨d0, d1, d2, d3, d4⟩, -⟩ := S4.out
  dsimp only at d1 d2 d3
  rw [HSN.out] at d3
  have c1 : (k : Int) < sn := by omega
  obtain ⟨kD, ke, q7, hri⟩ := HM4.out.code HK.out.lt
  have hlk : (co11 d k).length ≤ 300 := by
    have := (HBD.out _ (List.getElem_mem HK.out.lt)).2.2
    rw [me_at12 HK.out.lt] at this
    exact this
  have HST := Lib.hid (straight12_v kD ke _ (co11 d k) w4 hri rfl hlk)
  clear hri
  go_wp2_with fail
  refine HST.out.mono ?_
  rintro r w5 ⟨rfl, hb⟩
  have S5 := Lib.hid (S4.out.call hb)
  have HM5 := Lib.hid (HM4.out.keep hb)
  clear HST hb S4 HM4 d0 d1 d2 d3 d4 q7
  cases hsk : sr12 (co11 d k) with
  | false =>
    go_wp2_with fail
    go_ret
    exact ⟨rfl, S5.out.1⟩
  | true =>
  have HSK := Lib.hid hsk
  clear hsk
  go_upto_region 12 with (fail)
  go_loopw [10] (fun iv we => ∃ i : Nat, i ≤ tn ∧ iv = .int .i64 i ∧ Hid (∀ q x, q < i → TL[q]? = some x → sr12 (co11 d x.toNat) = true) ∧ Hid (Below w5.heap.size w5 we)) (fun iv _ => tn - (intOf iv).toNat)
  case atStart => exact ⟨0, by omega, rfl, Lib.hid (fun q x h => absurd h (Nat.not_lt_zero _)), Lib.hid (Below.refl _ _)⟩
  case round =>
    obtain ⟨i, hi, rfl, HP, HB⟩ := hrel
    rename World => we
    have SE := Lib.hid (S5.out.call HB.out)
    have HME := Lib.hid (HM5.out.keep HB.out)
    by_cases hin : i < tn
    case pos =>
      have e1 : decide ((i : Int) < tn) = true := by simp; omega
      have hit := List.getElem?_eq_getElem (l := TL) (i := i) (by rw [HTN.out]; exact hin)
      obtain ⟨j, hj, hjl, -⟩ := le11_mem HRO.out HK.out.lt (x := TL[i]'(by rw [HTN.out]; exact hin)) (by rw [HTL.out]; exact List.getElem_mem _)
      rw [hj] at hit
      have HIT := Lib.hid hit
      obtain ⟨adT, hAT, l0⟩ := SE.out.2.1.at_ hit
      subst hAT
      obtain ⟨qD, qe, q7, hri⟩ := HME.out.code hjl
      have hlj : (co11 d j).length ≤ 300 := by
        have := (HBD.out _ (List.getElem_mem hjl)).2.2
        rw [me_at12 hjl] at this
        exact this
      obtain ⟨-, -, -, -, -, ⟨d0, d1, d2, d3, d4⟩, -⟩ := SE.out
      dsimp only at d1 d2 d3
      rw [HSN.out] at d3 hjl
      have c3 : (i : Int) < tn := by omega
      have c4 : (j : Int) < sn := by omega
      have e2 : decide ((j : Int) < 0) = false := by simp
      have e3 : decide ((sn : Int) ≤ j) = false := by simp; omega
      have e4 : IntKind.i64.wrap ((i : Int) + 1) = (i : Int) + 1 := by rw [wrap_small (by omega)]
      clear hit hj d0 d1 d2 d4
      go_upto_region 14 with (fail)
      refine wp_region_held_drew (S := fun w' => w'.cell? (adT.add i) = some (.int .i64 (j : Int)) ∧ w'.cell? ⟨B, 2, none⟩ = some (.slice (some ad8) sn cc)) (by kernel_rfl) (⟨l0, d3⟩) (fun hHeld => ?_)
      refine wpAnyH_take (i := 0) (v := ?_) rfl (by kernel_rfl) (by kernel_rfl) (by kernel_rfl) (fun _ _ _ h => h) (Or.inl ⟨by rfl, ?_⟩) (by assumption) ?_
      rotate_left 1
      · intro w _; go_simp; try with_reducible rfl
      try simp only [Act.put, List.getElem_toArray, List.getElem_cons_zero, List.getElem_cons_succ, List.setIfInBounds_toArray, List.set_cons_zero, List.set_cons_succ]
      refine wpAnyH_take (i := 1) (v := ?_) rfl (by kernel_rfl) (by kernel_rfl) (by kernel_rfl) (fun _ _ _ h => h) (Or.inl ⟨by rfl, ?_⟩) (by assumption) ?_
      rotate_left 1
      · intro w _; go_simp; try with_reducible rfl
      try simp only [Act.put, List.getElem_toArray, List.getElem_cons_zero, List.getElem_cons_succ, List.setIfInBounds_toArray, List.set_cons_zero, List.set_cons_succ]
      refine wpAnyH_take (i := 2) (v := ?_) rfl (by kernel_rfl) (by kernel_rfl) (by kernel_rfl) (fun _ _ _ h => h) (Or.inl ⟨by rfl, ?_⟩) (by assumption) ?_
      rotate_left 1
      · intro w _; go_simp; try with_reducible rfl
      try simp only [Act.put, List.getElem_toArray, List.getElem_cons_zero, List.getElem_cons_succ, List.setIfInBounds_toArray, List.set_cons_zero, List.set_cons_succ]
      refine wpAnyH_take (i := 3) (v := ?_) rfl (by kernel_rfl) (by kernel_rfl) (by kernel_rfl) (fun _ _ _ h => h) (Or.inl ⟨by rfl, ?_⟩) (by assumption) ?_
      rotate_left 1
      · intro w hSw; (try dsimp only at hSw); obtain ⟨s1, s2⟩ := hSw; go_simp; try with_reducible rfl
      try simp only [Act.put, List.getElem_toArray, List.getElem_cons_zero, List.getElem_cons_succ, List.setIfInBounds_toArray, List.set_cons_zero, List.set_cons_succ]
      refine wpAnyH_take (i := 4) (v := ?_) rfl (by kernel_rfl) (by kernel_rfl) (by kernel_rfl) (fun _ _ _ h => h) (Or.inl ⟨by rfl, ?_⟩) (by assumption) ?_
      rotate_left 1
      · intro w _; go_simp; try with_reducible rfl
      try simp only [Act.put, List.getElem_toArray, List.getElem_cons_zero, List.getElem_cons_succ, List.setIfInBounds_toArray, List.set_cons_zero, List.set_cons_succ]
      refine wpAnyH_take (i := 5) (v := ?_) rfl (by kernel_rfl) (by kernel_rfl) (by kernel_rfl) (fun _ _ _ h => h) (Or.inl ⟨by rfl, ?_⟩) (by assumption) ?_
      rotate_left 1
      · intro w _; go_simp; try with_reducible rfl
      try simp only [Act.put, List.getElem_toArray, List.getElem_cons_zero, List.getElem_cons_succ, List.setIfInBounds_toArray, List.set_cons_zero, List.set_cons_succ]
      refine wpAnyH_take (i := 6) (v := ?_) rfl (by kernel_rfl) (by kernel_rfl) (by kernel_rfl) (fun _ _ _ h => h) (Or.inl ⟨by rfl, ?_⟩) (by assumption) ?_
      rotate_left 1
      · intro w _; go_simp; try with_reducible rfl
      try simp only [Act.put, List.getElem_toArray, List.getElem_cons_zero, List.getElem_cons_succ, List.setIfInBounds_toArray, List.set_cons_zero, List.set_cons_succ]
      refine wpAnyH_take (i := 7) (v := ?_) rfl (by kernel_rfl) (by kernel_rfl) (by kernel_rfl) (fun _ _ _ h => h) (Or.inl ⟨by rfl, ?_⟩) (by assumption) ?_
      rotate_left 1
      · intro w _; go_simp; try with_reducible rfl
      try simp only [Act.put, List.getElem_toArray, List.getElem_cons_zero, List.getElem_cons_succ, List.setIfInBounds_toArray, List.set_cons_zero, List.set_cons_succ]
      refine wpAnyH_take (i := 8) (v := ?_) rfl (by kernel_rfl) (by kernel_rfl) (by kernel_rfl) (fun _ _ _ h => h) (Or.inl ⟨by rfl, ?_⟩) (by assumption) ?_
      rotate_left 1
      · intro w _; go_simp; try with_reducible rfl
      try simp only [Act.put, List.getElem_toArray, List.getElem_cons_zero, List.getElem_cons_succ, List.setIfInBounds_toArray, List.set_cons_zero, List.set_cons_succ]
      refine wpAnyH_take (i := 9) (v := ?_) rfl (by kernel_rfl) (by kernel_rfl) (by kernel_rfl) (fun _ _ _ h => h) (Or.inl ⟨by rfl, ?_⟩) (by assumption) ?_
      rotate_left 1
      · intro w hSw; (try dsimp only at hSw); obtain ⟨s1, s2⟩ := hSw; go_simp; try with_reducible rfl
      try simp only [Act.put, List.getElem_toArray, List.getElem_cons_zero, List.getElem_cons_succ, List.setIfInBounds_toArray, List.set_cons_zero, List.set_cons_succ]
      refine wpAnyH_take (i := 10) (v := ?_) rfl (by kernel_rfl) (by kernel_rfl) (by kernel_rfl) (fun _ _ _ h => h) (Or.inl ⟨by rfl, ?_⟩) (by assumption) ?_
      rotate_left 1
      · intro w _; go_simp; try with_reducible rfl
      try simp only [Act.put, List.getElem_toArray, List.getElem_cons_zero, List.getElem_cons_succ, List.setIfInBounds_toArray, List.set_cons_zero, List.set_cons_succ]
      refine wpAnyH_take (i := 11) (v := ?_) rfl (by kernel_rfl) (by kernel_rfl) (by kernel_rfl) (fun _ _ _ h => h) (Or.inl ⟨by rfl, ?_⟩) (by assumption) ?_
      rotate_left 1
      · intro w hSw; (try dsimp only at hSw); obtain ⟨s1, s2⟩ := hSw; go_simp; try with_reducible rfl
      try simp only [Act.put, List.getElem_toArray, List.getElem_cons_zero, List.getElem_cons_succ, List.setIfInBounds_toArray, List.set_cons_zero, List.set_cons_succ]
      refine wpAnyH_take (i := 12) (v := ?_) rfl (by kernel_rfl) (by kernel_rfl) (by kernel_rfl) (fun _ _ _ h => h) (Or.inl ⟨by rfl, ?_⟩) (by assumption) ?_
      rotate_left 1
      · intro w _; go_simp; try with_reducible rfl
      try simp only [Act.put, List.getElem_toArray, List.getElem_cons_zero, List.getElem_cons_succ, List.setIfInBounds_toArray, List.set_cons_zero, List.set_cons_succ]
      refine wpAnyH_take (i := 13) (v := ?_) rfl (by kernel_rfl) (by kernel_rfl) (by kernel_rfl) (fun _ _ _ h => h) (Or.inl ⟨by rfl, ?_⟩) (by assumption) ?_
      rotate_left 1
      · intro w _; go_simp; try with_reducible rfl
      try simp only [Act.put, List.getElem_toArray, List.getElem_cons_zero, List.getElem_cons_succ, List.setIfInBounds_toArray, List.set_cons_zero, List.set_cons_succ]
      refine wpAnyH_take (i := 14) (v := ?_) rfl (by kernel_rfl) (by kernel_rfl) (by kernel_rfl) (fun _ _ _ h => h) (Or.inl ⟨by rfl, ?_⟩) (by assumption) ?_
      rotate_left 1
      · intro w _; go_simp; try with_reducible rfl
      try simp only [Act.put, List.getElem_toArray, List.getElem_cons_zero, List.getElem_cons_succ, List.setIfInBounds_toArray, List.set_cons_zero, List.set_cons_succ]
      refine wpAnyH_done (by kernel_rfl) ?_ _
      clear hHeld
      generalize hwf : we.drew = wf
      have hbf : Below we.heap.size we wf := by rw [← hwf]; exact below_draws (Below.refl _ _) 1
      have kp : ∀ {a : Addr} {v : Value}, we.cell? a = some v → wf.cell? a = some v := fun hv => (hbf.cell (cell_lt hv)).trans hv
      replace l0 := kp l0
      replace d3 := kp d3
      replace q7 := kp q7
      replace hri := hri.keep hbf
      have HBF := Lib.hid (below_on HB.out hbf)
      clear hwf hbf kp
      go_upto_region 16 with (fail)
      refine wp_region_held_drew (S := fun w' => w'.cell? (adT.add i) = some (.int .i64 (j : Int)) ∧ w'.cell? ⟨B, 2, none⟩ = some (.slice (some ad8) sn cc) ∧ w'.cell? ⟨(ad8.add (j * 8)).block, (ad8.add (j * 8)).off + 7, none⟩ = some (.slice qD (co11 d j).length qe) ∧ Ri w' qD qe (co11 d j)) (by kernel_rfl) (⟨l0, d3, q7, hri⟩) (fun hHeld => ?_)
      refine wpAnyH_take (i := 0) (v := ?_) rfl (by kernel_rfl) (by kernel_rfl) (by kernel_rfl) (fun _ _ _ h => h) (Or.inl ⟨by rfl, ?_⟩) (by assumption) ?_
      rotate_left 1
      · intro w _; go_simp; try with_reducible rfl
      try simp only [Act.put, List.getElem_toArray, List.getElem_cons_zero, List.getElem_cons_succ, List.setIfInBounds_toArray, List.set_cons_zero, List.set_cons_succ]
      refine wpAnyH_take (i := 1) (v := ?_) rfl (by kernel_rfl) (by kernel_rfl) (by kernel_rfl) (fun _ _ _ h => h) (Or.inl ⟨by rfl, ?_⟩) (by assumption) ?_
      rotate_left 1
      · intro w hSw; (try dsimp only at hSw); obtain ⟨s1, s2, s3, s4⟩ := hSw; go_simp; try with_reducible rfl
      try simp only [Act.put, List.getElem_toArray, List.getElem_cons_zero, List.getElem_cons_succ, List.setIfInBounds_toArray, List.set_cons_zero, List.set_cons_succ]
      refine wpAnyH_take (i := 2) (v := ?_) rfl (by kernel_rfl) (by kernel_rfl) (by kernel_rfl) (fun _ _ _ h => h) (Or.inl ⟨by rfl, ?_⟩) (by assumption) ?_
      rotate_left 1
      · intro w _; go_simp; try with_reducible rfl
      try simp only [Act.put, List.getElem_toArray, List.getElem_cons_zero, List.getElem_cons_succ, List.setIfInBounds_toArray, List.set_cons_zero, List.set_cons_succ]
      refine wpAnyH_take (i := 3) (v := ?_) rfl (by kernel_rfl) (by kernel_rfl) (by kernel_rfl) (fun _ _ _ h => h) (Or.inl ⟨by rfl, ?_⟩) (by assumption) ?_
      rotate_left 1
      · intro w _; go_simp; try with_reducible rfl
      try simp only [Act.put, List.getElem_toArray, List.getElem_cons_zero, List.getElem_cons_succ, List.setIfInBounds_toArray, List.set_cons_zero, List.set_cons_succ]
      refine wpAnyH_take (i := 4) (v := ?_) rfl (by kernel_rfl) (by kernel_rfl) (by kernel_rfl) (fun _ _ _ h => h) (Or.inl ⟨by rfl, ?_⟩) (by assumption) ?_
      rotate_left 1
      · intro w _; go_simp; try with_reducible rfl
      try simp only [Act.put, List.getElem_toArray, List.getElem_cons_zero, List.getElem_cons_succ, List.setIfInBounds_toArray, List.set_cons_zero, List.set_cons_succ]
      refine wpAnyH_take (i := 5) (v := ?_) rfl (by kernel_rfl) (by kernel_rfl) (by kernel_rfl) (fun _ _ _ h => h) (Or.inl ⟨by rfl, ?_⟩) (by assumption) ?_
      rotate_left 1
      · intro w hSw; (try dsimp only at hSw); obtain ⟨s1, s2, s3, s4⟩ := hSw; go_simp; try with_reducible rfl
      try simp only [Act.put, List.getElem_toArray, List.getElem_cons_zero, List.getElem_cons_succ, List.setIfInBounds_toArray, List.set_cons_zero, List.set_cons_succ]
      refine wpAnyH_take (i := 6) (v := ?_) rfl (by kernel_rfl) (by kernel_rfl) (by kernel_rfl) (fun _ _ _ h => h) (Or.inl ⟨by rfl, ?_⟩) (by assumption) ?_
      rotate_left 1
      · intro w _; go_simp; try with_reducible rfl
      try simp only [Act.put, List.getElem_toArray, List.getElem_cons_zero, List.getElem_cons_succ, List.setIfInBounds_toArray, List.set_cons_zero, List.set_cons_succ]
      refine wpAnyH_take (i := 7) (v := ?_) rfl (by kernel_rfl) (by kernel_rfl) (by kernel_rfl) (fun _ _ _ h => h) (Or.inl ⟨by rfl, ?_⟩) (by assumption) ?_
      rotate_left 1
      · intro w _; go_simp; try with_reducible rfl
      try simp only [Act.put, List.getElem_toArray, List.getElem_cons_zero, List.getElem_cons_succ, List.setIfInBounds_toArray, List.set_cons_zero, List.set_cons_succ]
      refine wpAnyH_take (i := 8) (v := ?_) rfl (by kernel_rfl) (by kernel_rfl) (by kernel_rfl) (fun _ _ _ h => h) (Or.inl ⟨by rfl, ?_⟩) (by assumption) ?_
      rotate_left 1
      · intro w hSw; (try dsimp only at hSw); obtain ⟨s1, s2, s3, s4⟩ := hSw; go_simp; try with_reducible rfl
      try simp only [Act.put, List.getElem_toArray, List.getElem_cons_zero, List.getElem_cons_succ, List.setIfInBounds_toArray, List.set_cons_zero, List.set_cons_succ]
      refine wpAnyH_ready (rs := [9]) (by kernel_rfl) (by simp) ?_
      refine AllReadyH.cons rfl (fun K hK => ?_) AllReadyH.nil
      go_simp
      refine (straight12_v qD qe _ (co11 d j) _ hHeld.2.2.2 rfl hlj).mono ?_
      rintro r w8 ⟨rfl, hb8⟩
      have HB8 := Lib.hid hb8
      clear hb8
      go_wp2_with fail
      refine hK.out _ _ (⟨(HB8.out.cell (cell_lt l0)).trans l0, (HB8.out.cell (cell_lt d3)).trans d3, (HB8.out.cell (cell_lt q7)).trans q7, hHeld.2.2.2.keep HB8.out⟩) (fun hHeld => ?_)
      clear hK K
      try simp only [Act.put, List.getElem_toArray, List.getElem_cons_zero, List.getElem_cons_succ, List.setIfInBounds_toArray, List.set_cons_zero, List.set_cons_succ]
      refine wpAnyH_take (i := 10) (v := ?_) rfl (by kernel_rfl) (by kernel_rfl) (by kernel_rfl) (fun _ _ _ h => h) (Or.inl ⟨by rfl, ?_⟩) (by assumption) ?_
      rotate_left 1
      · intro w _; go_simp; try with_reducible rfl
      try simp only [Act.put, List.getElem_toArray, List.getElem_cons_zero, List.getElem_cons_succ, List.setIfInBounds_toArray, List.set_cons_zero, List.set_cons_succ]
      refine wpAnyH_done (by kernel_rfl) ?_ _
      clear hHeld
      have HB9 : Hid (Below w5.heap.size w5 w8) := Lib.hid (below_on HBF.out (show Below wf.heap.size wf w8 from ⟨HB8.out.os, HB8.out.tape, HB8.out.output, HB8.out.size, HB8.out.block⟩))
      cases hsj : sr12 (co11 d j) with
      | false =>
        have HBZ := Lib.hid (below_on S5.out.1 HB9.out)
        go_wp2_with fail
        go_ret
        exact ⟨rfl, HBZ.out⟩
      | true =>
        have HPN : Hid (∀ q x, q < i + 1 → TL[q]? = some x → sr12 (co11 d x.toNat) = true) := Lib.hid (fun q x hq hx => by
          by_cases hqi : q = i
          · rw [hqi, HIT.out] at hx
            injection hx with hx
            rw [← hx, Int.toNat_natCast]
            exact hsj
          · exact HP.out q x (by omega) hx)
        clear hsj
        go_wp2_with fail
        exact ⟨⟨i + 1, by omega, by go_num, HPN, HB9⟩, by simp [intOf]; omega⟩
    case neg =>
      have hni : i = tn := by omega
      have e1 : decide ((i : Int) < tn) = false := by simp; omega
      have HXS : Hid (Xs12 d k True) := Lib.hid (fun _ j hj => by
        rcases hj with rfl | hj
        · exact HSK.out
        · have hm : (j : Int) ∈ TL := by rw [← HTL.out]; exact (le11_iff HRO.out HK.out.lt).2 hj
          obtain ⟨q, hq⟩ := List.getElem?_of_mem hm
          have hql : q < tn := by rw [← HTN.out]; exact (List.getElem?_eq_some_iff.1 hq).1
          have := HP.out q _ (by omega) hq
          rwa [Int.toNat_natCast] at this)
      clear hni
      obtain ⟨-, -, -, -, -, ⟨d0, d1, d2, d3, d4⟩, -⟩ := SE.out
      dsimp only at d1 d2 d3
      rw [HSN.out] at d3
      have HRV := Lib.hid (run12_v _ d ad8 gR c R k True none 0 0 we HME.out HH.out HK.out.qg HK.out.lt HXS.out HK.out.fu (by omega) (fun q hq => absurd hq (Nat.not_lt_zero _)))
      rw [dv, HSN.out] at HRV
      go_wp2_with fail
      refine HRV.out.mono ?_
      rintro r w6 ⟨f, s, v, rfl, h1, h2, h3, h4, hb⟩
      obtain ⟨h5, h6⟩ := h4 trivial
      have S6 := Lib.hid (SE.out.call hb)
      have H2 := Lib.hid h2
      have H5 := Lib.hid h5
      have H6 := Lib.hid h6
      clear HRV hb SE HME h1 h2 h3 h4 h5 h6 d0 d1 d2 d3 d4
      go_upto_region 19 with (fail)
      obtain ⟨w7, hw7⟩ : ∃ w7, w6.alloc (.cells #[.int .i64 f, .int .i64 s, .int .i64 v, .bool true] 41) = w7 := ⟨_, rfl⟩
      have hT := Tk12.newv w6 f s v true
      rw [hw7] at hT ⊢
      obtain ⟨TB, hTB⟩ : ∃ TB, w6.heap.size = TB := ⟨_, rfl⟩
      rw [hTB] at hT ⊢
      have S7 := Lib.hid (S6.out.call (w' := w7) (by rw [← hw7]; exact new1))
      clear hw7 hTB S6
      obtain ⟨t0, t1, t2, t3⟩ := hT.cells
      obtain ⟨gC2, hA3, hgg, hc⟩ := S7.out.2.2.2.2.1.at_ ce3_len (cs12_at (d := d) (k := k) HK.out.lt)
      injection hA3 with hA3
      injection hA3 with hA3
      subst hA3
      have c0 := hc 0 (by omega)
      have c1 := hc 1 (by omega)
      have c2 := hc 2 (by omega)
      simp only [ce3, List.getElem?_cons_zero, List.getElem?_cons_succ, Nat.add_zero] at c0 c1 c2
      have h2 := H2.out
      rw [← H5.out] at c0
      rw [← H6.out] at c2
      obtain ⟨cs, hcs⟩ : ∃ cs, (ce12 d k).2.1 = cs := ⟨_, rfl⟩
      rw [hcs] at c1 h2
      have q1 : (k : Int) < sn := by rw [← HSN.out]; have := HK.out.lt; omega
      have e2 : decide (s ≤ cs) = true := by simpa using h2
      have e3 : (f == f) = true := by simp
      have e4 : (v == v) = true := by simp
      clear hc hgg hcs h2 H2 H5 H6
      refine wp_region_held_drew (S := fun w' => w'.cell? (⟨TB, 0, none⟩) = some (.int .i64 f) ∧ w'.cell? (⟨TB, 1, none⟩) = some (.int .i64 s) ∧ w'.cell? (⟨TB, 2, none⟩) = some (.int .i64 v) ∧ w'.cell? (⟨TB, 3, none⟩) = some (.bool true) ∧ w'.cell? (⟨gC, k * 3, none⟩) = some (.int .i64 f) ∧ w'.cell? (⟨gC, k * 3 + 1, none⟩) = some (.int .i64 cs) ∧ w'.cell? (⟨gC, k * 3 + 2, none⟩) = some (.int .i64 v)) (by kernel_rfl) (⟨t0, t1, t2, t3, c0, c1, c2⟩) (fun hHeld => ?_)
      refine wpAnyH_take (i := 0) (v := ?_) rfl (by kernel_rfl) (by kernel_rfl) (by kernel_rfl) (fun _ _ _ h => h) (Or.inl ⟨by rfl, ?_⟩) (by assumption) ?_
      rotate_left 1
      · intro w _; go_simp; try with_reducible rfl
      try simp only [Act.put, List.getElem_toArray, List.getElem_cons_zero, List.getElem_cons_succ, List.setIfInBounds_toArray, List.set_cons_zero, List.set_cons_succ]
      refine wpAnyH_take (i := 1) (v := ?_) rfl (by kernel_rfl) (by kernel_rfl) (by kernel_rfl) (fun _ _ _ h => h) (Or.inl ⟨by rfl, ?_⟩) (by assumption) ?_
      rotate_left 1
      · intro w hSw; (try dsimp only at hSw); obtain ⟨s0, s1, s2, s3, s4, s5, s6⟩ := hSw; go_simp; try with_reducible rfl
      try simp only [Act.put, List.getElem_toArray, List.getElem_cons_zero, List.getElem_cons_succ, List.setIfInBounds_toArray, List.set_cons_zero, List.set_cons_succ]
      refine wpAnyH_take (i := 2) (v := ?_) rfl (by kernel_rfl) (by kernel_rfl) (by kernel_rfl) (fun _ _ _ h => h) (Or.inl ⟨by rfl, ?_⟩) (by assumption) ?_
      rotate_left 1
      · intro w _; go_simp; try with_reducible rfl
      try simp only [Act.put, List.getElem_toArray, List.getElem_cons_zero, List.getElem_cons_succ, List.setIfInBounds_toArray, List.set_cons_zero, List.set_cons_succ]
      refine wpAnyH_take (i := 3) (v := ?_) rfl (by kernel_rfl) (by kernel_rfl) (by kernel_rfl) (fun _ _ _ h => h) (Or.inl ⟨by rfl, ?_⟩) (by assumption) ?_
      rotate_left 1
      · intro w _; go_simp; try with_reducible rfl
      try simp only [Act.put, List.getElem_toArray, List.getElem_cons_zero, List.getElem_cons_succ, List.setIfInBounds_toArray, List.set_cons_zero, List.set_cons_succ]
      refine wpAnyH_take (i := 4) (v := ?_) rfl (by kernel_rfl) (by kernel_rfl) (by kernel_rfl) (fun _ _ _ h => h) (Or.inl ⟨by rfl, ?_⟩) (by assumption) ?_
      rotate_left 1
      · intro w hSw; (try dsimp only at hSw); obtain ⟨s0, s1, s2, s3, s4, s5, s6⟩ := hSw; go_simp; try with_reducible rfl
      try simp only [Act.put, List.getElem_toArray, List.getElem_cons_zero, List.getElem_cons_succ, List.setIfInBounds_toArray, List.set_cons_zero, List.set_cons_succ]
      refine wpAnyH_take (i := 5) (v := ?_) rfl (by kernel_rfl) (by kernel_rfl) (by kernel_rfl) (fun _ _ _ h => h) (Or.inl ⟨by rfl, ?_⟩) (by assumption) ?_
      rotate_left 1
      · intro w _; go_simp; try with_reducible rfl
      try simp only [Act.put, List.getElem_toArray, List.getElem_cons_zero, List.getElem_cons_succ, List.setIfInBounds_toArray, List.set_cons_zero, List.set_cons_succ]
      refine wpAnyH_take (i := 6) (v := ?_) rfl (by kernel_rfl) (by kernel_rfl) (by kernel_rfl) (fun _ _ _ h => h) (Or.inl ⟨by rfl, ?_⟩) (by assumption) ?_
      rotate_left 1
      · intro w _; go_simp; try with_reducible rfl
      try simp only [Act.put, List.getElem_toArray, List.getElem_cons_zero, List.getElem_cons_succ, List.setIfInBounds_toArray, List.set_cons_zero, List.set_cons_succ]
      refine wpAnyH_take (i := 7) (v := ?_) rfl (by kernel_rfl) (by kernel_rfl) (by kernel_rfl) (fun _ _ _ h => h) (Or.inl ⟨by rfl, ?_⟩) (by assumption) ?_
      rotate_left 1
      · intro w _; go_simp; try with_reducible rfl
      try simp only [Act.put, List.getElem_toArray, List.getElem_cons_zero, List.getElem_cons_succ, List.setIfInBounds_toArray, List.set_cons_zero, List.set_cons_succ]
      refine wpAnyH_take (i := 8) (v := ?_) rfl (by kernel_rfl) (by kernel_rfl) (by kernel_rfl) (fun _ _ _ h => h) (Or.inl ⟨by rfl, ?_⟩) (by assumption) ?_
      rotate_left 1
      · intro w _; go_simp; try with_reducible rfl
      try simp only [Act.put, List.getElem_toArray, List.getElem_cons_zero, List.getElem_cons_succ, List.setIfInBounds_toArray, List.set_cons_zero, List.set_cons_succ]
      refine wpAnyH_take (i := 9) (v := ?_) rfl (by kernel_rfl) (by kernel_rfl) (by kernel_rfl) (fun _ _ _ h => h) (Or.inl ⟨by rfl, ?_⟩) (by assumption) ?_
      rotate_left 1
      · intro w hSw; (try dsimp only at hSw); obtain ⟨s0, s1, s2, s3, s4, s5, s6⟩ := hSw; go_simp; try with_reducible rfl
      try simp only [Act.put, List.getElem_toArray, List.getElem_cons_zero, List.getElem_cons_succ, List.setIfInBounds_toArray, List.set_cons_zero, List.set_cons_succ]
      refine wpAnyH_take (i := 10) (v := ?_) rfl (by kernel_rfl) (by kernel_rfl) (by kernel_rfl) (fun _ _ _ h => h) (Or.inl ⟨by rfl, ?_⟩) (by assumption) ?_
      rotate_left 1
      · intro w _; go_simp; try with_reducible rfl
      try simp only [Act.put, List.getElem_toArray, List.getElem_cons_zero, List.getElem_cons_succ, List.setIfInBounds_toArray, List.set_cons_zero, List.set_cons_succ]
      refine wpAnyH_take (i := 11) (v := ?_) rfl (by kernel_rfl) (by kernel_rfl) (by kernel_rfl) (fun _ _ _ h => h) (Or.inl ⟨by rfl, ?_⟩) (by assumption) ?_
      rotate_left 1
      · intro w _; go_simp; try with_reducible rfl
      try simp only [Act.put, List.getElem_toArray, List.getElem_cons_zero, List.getElem_cons_succ, List.setIfInBounds_toArray, List.set_cons_zero, List.set_cons_succ]
      refine wpAnyH_take (i := 12) (v := ?_) rfl (by kernel_rfl) (by kernel_rfl) (by kernel_rfl) (fun _ _ _ h => h) (Or.inl ⟨by rfl, ?_⟩) (by assumption) ?_
      rotate_left 1
      · intro w _; go_simp; try with_reducible rfl
      try simp only [Act.put, List.getElem_toArray, List.getElem_cons_zero, List.getElem_cons_succ, List.setIfInBounds_toArray, List.set_cons_zero, List.set_cons_succ]
      refine wpAnyH_take (i := 13) (v := ?_) rfl (by kernel_rfl) (by kernel_rfl) (by kernel_rfl) (fun _ _ _ h => h) (Or.inl ⟨by rfl, ?_⟩) (by assumption) ?_
      rotate_left 1
      · intro w _; go_simp; try with_reducible rfl
      try simp only [Act.put, List.getElem_toArray, List.getElem_cons_zero, List.getElem_cons_succ, List.setIfInBounds_toArray, List.set_cons_zero, List.set_cons_succ]
      refine wpAnyH_take (i := 14) (v := ?_) rfl (by kernel_rfl) (by kernel_rfl) (by kernel_rfl) (fun _ _ _ h => h) (Or.inl ⟨by rfl, ?_⟩) (by assumption) ?_
      rotate_left 1
      · intro w hSw; (try dsimp only at hSw); obtain ⟨s0, s1, s2, s3, s4, s5, s6⟩ := hSw; go_simp; try with_reducible rfl
      try simp only [Act.put, List.getElem_toArray, List.getElem_cons_zero, List.getElem_cons_succ, List.setIfInBounds_toArray, List.set_cons_zero, List.set_cons_succ]
      refine wpAnyH_take (i := 15) (v := ?_) rfl (by kernel_rfl) (by kernel_rfl) (by kernel_rfl) (fun _ _ _ h => h) (Or.inl ⟨by rfl, ?_⟩) (by assumption) ?_
      rotate_left 1
      · intro w _; go_simp; try with_reducible rfl
      try simp only [Act.put, List.getElem_toArray, List.getElem_cons_zero, List.getElem_cons_succ, List.setIfInBounds_toArray, List.set_cons_zero, List.set_cons_succ]
      refine wpAnyH_take (i := 16) (v := ?_) rfl (by kernel_rfl) (by kernel_rfl) (by kernel_rfl) (fun _ _ _ h => h) (Or.inl ⟨by rfl, ?_⟩) (by assumption) ?_
      rotate_left 1
      · intro w _; go_simp; try with_reducible rfl
      try simp only [Act.put, List.getElem_toArray, List.getElem_cons_zero, List.getElem_cons_succ, List.setIfInBounds_toArray, List.set_cons_zero, List.set_cons_succ]
      refine wpAnyH_take (i := 17) (v := ?_) rfl (by kernel_rfl) (by kernel_rfl) (by kernel_rfl) (fun _ _ _ h => h) (Or.inl ⟨by rfl, ?_⟩) (by assumption) ?_
      rotate_left 1
      · intro w _; go_simp; try with_reducible rfl
      try simp only [Act.put, List.getElem_toArray, List.getElem_cons_zero, List.getElem_cons_succ, List.setIfInBounds_toArray, List.set_cons_zero, List.set_cons_succ]
      refine wpAnyH_take (i := 18) (v := ?_) rfl (by kernel_rfl) (by kernel_rfl) (by kernel_rfl) (fun _ _ _ h => h) (Or.inl ⟨by rfl, ?_⟩) (by assumption) ?_
      rotate_left 1
      · intro w _; go_simp; try with_reducible rfl
      try simp only [Act.put, List.getElem_toArray, List.getElem_cons_zero, List.getElem_cons_succ, List.setIfInBounds_toArray, List.set_cons_zero, List.set_cons_succ]
      refine wpAnyH_take (i := 19) (v := ?_) rfl (by kernel_rfl) (by kernel_rfl) (by kernel_rfl) (fun _ _ _ h => h) (Or.inl ⟨by rfl, ?_⟩) (by assumption) ?_
      rotate_left 1
      · intro w hSw; (try dsimp only at hSw); obtain ⟨s0, s1, s2, s3, s4, s5, s6⟩ := hSw; go_simp; try with_reducible rfl
      try simp only [Act.put, List.getElem_toArray, List.getElem_cons_zero, List.getElem_cons_succ, List.setIfInBounds_toArray, List.set_cons_zero, List.set_cons_succ]
      refine wpAnyH_take (i := 20) (v := ?_) rfl (by kernel_rfl) (by kernel_rfl) (by kernel_rfl) (fun _ _ _ h => h) (Or.inl ⟨by rfl, ?_⟩) (by assumption) ?_
      rotate_left 1
      · intro w _; go_simp; try with_reducible rfl
      try simp only [Act.put, List.getElem_toArray, List.getElem_cons_zero, List.getElem_cons_succ, List.setIfInBounds_toArray, List.set_cons_zero, List.set_cons_succ]
      refine wpAnyH_take (i := 21) (v := ?_) rfl (by kernel_rfl) (by kernel_rfl) (by kernel_rfl) (fun _ _ _ h => h) (Or.inl ⟨by rfl, ?_⟩) (by assumption) ?_
      rotate_left 1
      · intro w _; go_simp; try with_reducible rfl
      try simp only [Act.put, List.getElem_toArray, List.getElem_cons_zero, List.getElem_cons_succ, List.setIfInBounds_toArray, List.set_cons_zero, List.set_cons_succ]
      refine wpAnyH_take (i := 22) (v := ?_) rfl (by kernel_rfl) (by kernel_rfl) (by kernel_rfl) (fun _ _ _ h => h) (Or.inl ⟨by rfl, ?_⟩) (by assumption) ?_
      rotate_left 1
      · intro w _; go_simp; try with_reducible rfl
      try simp only [Act.put, List.getElem_toArray, List.getElem_cons_zero, List.getElem_cons_succ, List.setIfInBounds_toArray, List.set_cons_zero, List.set_cons_succ]
      refine wpAnyH_take (i := 23) (v := ?_) rfl (by kernel_rfl) (by kernel_rfl) (by kernel_rfl) (fun _ _ _ h => h) (Or.inl ⟨by rfl, ?_⟩) (by assumption) ?_
      rotate_left 1
      · intro w _; go_simp; try with_reducible rfl
      try simp only [Act.put, List.getElem_toArray, List.getElem_cons_zero, List.getElem_cons_succ, List.setIfInBounds_toArray, List.set_cons_zero, List.set_cons_succ]
      refine wpAnyH_take (i := 24) (v := ?_) rfl (by kernel_rfl) (by kernel_rfl) (by kernel_rfl) (fun _ _ _ h => h) (Or.inl ⟨by rfl, ?_⟩) (by assumption) ?_
      rotate_left 1
      · intro w hSw; (try dsimp only at hSw); obtain ⟨s0, s1, s2, s3, s4, s5, s6⟩ := hSw; go_simp; try with_reducible rfl
      try simp only [Act.put, List.getElem_toArray, List.getElem_cons_zero, List.getElem_cons_succ, List.setIfInBounds_toArray, List.set_cons_zero, List.set_cons_succ]
      refine wpAnyH_take (i := 25) (v := ?_) rfl (by kernel_rfl) (by kernel_rfl) (by kernel_rfl) (fun _ _ _ h => h) (Or.inl ⟨by rfl, ?_⟩) (by assumption) ?_
      rotate_left 1
      · intro w _; go_simp; try with_reducible rfl
      try simp only [Act.put, List.getElem_toArray, List.getElem_cons_zero, List.getElem_cons_succ, List.setIfInBounds_toArray, List.set_cons_zero, List.set_cons_succ]
      refine wpAnyH_take (i := 26) (v := ?_) rfl (by kernel_rfl) (by kernel_rfl) (by kernel_rfl) (fun _ _ _ h => h) (Or.inl ⟨by rfl, ?_⟩) (by assumption) ?_
      rotate_left 1
      · intro w _; go_simp; try with_reducible rfl
      try simp only [Act.put, List.getElem_toArray, List.getElem_cons_zero, List.getElem_cons_succ, List.setIfInBounds_toArray, List.set_cons_zero, List.set_cons_succ]
      refine wpAnyH_take (i := 27) (v := ?_) rfl (by kernel_rfl) (by kernel_rfl) (by kernel_rfl) (fun _ _ _ h => h) (Or.inl ⟨by rfl, ?_⟩) (by assumption) ?_
      rotate_left 1
      · intro w _; go_simp; try with_reducible rfl
      try simp only [Act.put, List.getElem_toArray, List.getElem_cons_zero, List.getElem_cons_succ, List.setIfInBounds_toArray, List.set_cons_zero, List.set_cons_succ]
      refine wpAnyH_take (i := 28) (v := ?_) rfl (by kernel_rfl) (by kernel_rfl) (by kernel_rfl) (fun _ _ _ h => h) (Or.inl ⟨by rfl, ?_⟩) (by assumption) ?_
      rotate_left 1
      · intro w _; go_simp; try with_reducible rfl
      try simp only [Act.put, List.getElem_toArray, List.getElem_cons_zero, List.getElem_cons_succ, List.setIfInBounds_toArray, List.set_cons_zero, List.set_cons_succ]
      refine wpAnyH_take (i := 29) (v := ?_) rfl (by kernel_rfl) (by kernel_rfl) (by kernel_rfl) (fun _ _ _ h => h) (Or.inl ⟨by rfl, ?_⟩) (by assumption) ?_
      rotate_left 1
      · intro w hSw; (try dsimp only at hSw); obtain ⟨s0, s1, s2, s3, s4, s5, s6⟩ := hSw; go_simp; try with_reducible rfl
      try simp only [Act.put, List.getElem_toArray, List.getElem_cons_zero, List.getElem_cons_succ, List.setIfInBounds_toArray, List.set_cons_zero, List.set_cons_succ]
      refine wpAnyH_take (i := 30) (v := ?_) rfl (by kernel_rfl) (by kernel_rfl) (by kernel_rfl) (fun _ _ _ h => h) (Or.inl ⟨by rfl, ?_⟩) (by assumption) ?_
      rotate_left 1
      · intro w _; go_simp; try with_reducible rfl
      try simp only [Act.put, List.getElem_toArray, List.getElem_cons_zero, List.getElem_cons_succ, List.setIfInBounds_toArray, List.set_cons_zero, List.set_cons_succ]
      refine wpAnyH_take (i := 31) (v := ?_) rfl (by kernel_rfl) (by kernel_rfl) (by kernel_rfl) (fun _ _ _ h => h) (Or.inl ⟨by rfl, ?_⟩) (by assumption) ?_
      rotate_left 1
      · intro w _; go_simp; try with_reducible rfl
      try simp only [Act.put, List.getElem_toArray, List.getElem_cons_zero, List.getElem_cons_succ, List.setIfInBounds_toArray, List.set_cons_zero, List.set_cons_succ]
      refine wpAnyH_take (i := 32) (v := ?_) rfl (by kernel_rfl) (by kernel_rfl) (by kernel_rfl) (fun _ _ _ h => h) (Or.inl ⟨by rfl, ?_⟩) (by assumption) ?_
      rotate_left 1
      · intro w _; go_simp; try with_reducible rfl
      try simp only [Act.put, List.getElem_toArray, List.getElem_cons_zero, List.getElem_cons_succ, List.setIfInBounds_toArray, List.set_cons_zero, List.set_cons_succ]
      refine wpAnyH_done (by kernel_rfl) ?_ _
      clear hHeld
      have HBL := Lib.hid (below_draws S7.out.1 1)
      go_wp2_with fail
      go_ret
      exact ⟨rfl, HBL.out⟩
end Go.Proofs.YtmgppdjbmhjmbaaGreat
