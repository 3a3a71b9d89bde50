/-
  Layer 13's law PureSays.
-/
import Derived.Test.YtimjnmkfbdijeaaLkd
import Derived.Test.YtimjnmkfbdijeaaEy
import Derived.Test.YtimjnmkfbdijeaaLeh
namespace Go.Proofs.Ytimjnmkfbdijeaa
open Go.RowKit
set_option maxRecDepth 100000
set_option linter.unusedSimpArgs false
set_option linter.unusedVariables false

/-- A row of Booleans that stays. -/
abbrev fBc (A : Option Addr) (T : List Bool) : Fct := ⟨fun w => ∀ j x, T[j]? = some x → ∃ g, A = some ⟨g, 0, none⟩ ∧ w.cell? ⟨g, j, none⟩ = some (.bool x), fun _ _ h hb j x hj => let ⟨g, ha, hc⟩ := h j x hj; ⟨g, ha, (hb.cell (cell_lt hc)).trans hc⟩⟩
theorem fBc_of {w : World} {base n c : Nat} {A : Option Addr} {T : List Bool} (h : w.ownsRow base 4 1 (.slice A n c) n (cb13 T)) : (fBc A T).p w := by
  intro j x hj
  have hl : T.length = n := by
    have := h.1
    simp [cb13] at this
    omega
  obtain ⟨g, ha, -, -, hc⟩ := bo13_cells h (by have := (List.getElem?_eq_some_iff.1 hj).1; omega)
  exact ⟨g, ha, hc j x hj⟩
theorem ch13_zero {d : Md} (h : ch13 d = 0) : ba11 d = false ∧ sd13 d = true := by
  unfold ch13 at h
  split at h
  · cases h
  · rename_i hb
    split at h
    · rename_i hs
      exact ⟨by simpa using hb, hs⟩
    · cases h
theorem le13_at {d : Md} {k i : Nat} {x : Int} (hk : k < d.s.length) (h : (le11 d k).2 = 0) (hx : (le11 d k).1[i]? = some x) : ∃ j : Nat, x = (j : Int) ∧ j < d.s.length ∧ Le11 (e11 d) d.s.length k j := by
  have hro : (ro11 d).2 = 0 := by
    unfold le11 at h
    split at h
    · assumption
    · exact h
  have hm := List.mem_of_getElem? hx
  have hm2 := hm
  unfold le11 at hm
  rw [if_pos hro, if_neg (by omega)] at hm
  obtain ⟨j, hj, rfl⟩ := List.mem_map.1 hm
  have hl := (le11_iff hro hk).1 hm2
  exact ⟨j, rfl, hl.lt.2, hl⟩
theorem le13_len {d : Md} {k : Nat} (hk : k < d.s.length) : (le11 d k).1.length ≤ d.s.length := by
  unfold le11
  split
  · rw [if_neg (by omega)]
    exact fil_len11 _ _
  · simp
set_option maxHeartbeats 8000000 in
theorem says13_walk (y : Ma) (d : Md) (w : World) (hq : Hq w y d) : Calls Try.prog 4 #[dv y d] w fun r w' => r = .returned (.bool true) ∧ Below w.heap.size w w' := by
  have HZL := Lib.hid hq.zlen
  have S0 := Lib.hid ((((Sx.start w).add (fQm y d) hq).mkD y d))
  obtain ⟨B, hB⟩ : ∃ B, w.heap.size = B := ⟨_, rfl⟩
  have HBB := Lib.hid hB
  rw [hB] at S0
  clear hq
  go_enter Try.func4, Try.ntmps4
  go_upto_region 1 with (fail)
  change Code.wp _ _ _ _ (w.alloc (dcel y d))
  generalize w.alloc (dcel y d) = w1 at S0 ⊢
  clear hB
  have HAW := Lib.hid (awake13_v w1)
  go_wp2_with fail
  refine HAW.out.mono ?_
  rintro r w2 ⟨rfl, hb⟩
  have S2 := Lib.hid (S0.out.call hb)
  clear HAW hb S0
  have HGR := Lib.hid (great8_v y d w2 S2.out.2.2.1)
  obtain ⟨-, ⟨d0, d1, d2, d3, d4⟩, -⟩ := S2.out
  go_wp2_with fail
  refine HGR.out.mono ?_
  rintro r w3 ⟨rfl, hb⟩
  have S3 := Lib.hid (S2.out.call hb)
  clear HGR hb S2 d0 d1 d2 d3 d4
  cases hg : qG d with
  | true =>
    go_wp2_with fail
    go_ret
    exact ⟨rfl, S3.out.1⟩
  | false =>
  have HG := Lib.hid hg
  obtain ⟨hs40, hbl⟩ := qG_bs hg
  have HBL := Lib.hid hbl
  have HBS := Lib.hid hs40
  clear hg hbl
  have HCK := Lib.hid (check13_v y d w3 S3.out.2.2.1 (by omega) HBL.out)
  obtain ⟨-, ⟨d0, d1, d2, d3, d4⟩, -⟩ := S3.out
  go_wp2_with fail
  refine HCK.out.mono ?_
  rintro r w4 ⟨rfl, hb⟩
  have S4 := Lib.hid (S3.out.call hb)
  clear HCK hb S3 d0 d1 d2 d3 d4
  by_cases hch : ch13 d = 0
  case neg =>
    go_wp2_with fail
    go_ret
    exact ⟨rfl, S4.out.1⟩
  obtain ⟨hba, hsd⟩ := ch13_zero hch
  have HSD := Lib.hid (sd13_iff.1 hsd)
  have HSY := Lib.hid hsd
  obtain ⟨n, hn⟩ : ∃ n, d.s.length = n := ⟨_, rfl⟩
  have HN := Lib.hid hn
  have hpt : pu13T d = ((List.range n).map (pu13 d), 0) := by rw [pu13T, if_neg (by rw [hba]; simp), hn]
  have hlm : ((List.range n).map (pu13 d)).length = n := by rw [List.length_map, List.length_range]
  have HPU := Lib.hid (pure13_v y d w4 S4.out.2.2.1 (by omega) HBL.out)
  rw [hpt, dv, hn] at HPU
  obtain ⟨-, ⟨d0, d1, d2, d3, d4⟩, -⟩ := S4.out
  rw [hn] at d3 hs40
  clear hba hsd hpt hn
  go_wp2_with fail
  refine HPU.out.mono ?_
  rintro r w5 ⟨A4, c4, rfl, ho, hb⟩
  dsimp only at ho ⊢
  rw [hlm] at ho ⊢
  obtain ⟨T4, hT4⟩ : ∃ T4, (List.range n).map (pu13 d) = T4 := ⟨_, rfl⟩
  rw [hT4] at ho
  have HT4 := Lib.hid hT4
  have S5 := Lib.hid ((S4.out.call hb).add (fBc A4 T4) (fBc_of ho))
  clear HPU ho hb S4 d0 d1 d2 d3 d4 hlm hT4
  obtain ⟨-, -, ⟨d0, d1, d2, d3, d4⟩, -⟩ := S5.out
  rw [HN.out] at d3
  go_wp2_with fail
  clear d0 d1 d2 d3 d4
  go_loopw [5] (fun iv wr => ∃ k : Nat, k ≤ n ∧ iv = .int .i64 k ∧ Hid (Sx w wr [fBc A4 T4, fD B y d, fQm y d])) (fun iv _ => n - (intOf iv).toNat)
  case atStart => exact ⟨0, by omega, rfl, S5⟩
  case round =>
    clear S5
    obtain ⟨k, hk, rfl, SR⟩ := hrel
    rename World => wr
    by_cases h1 : k < n
    · have hkd : k < d.s.length := by rw [HN.out]; exact h1
      obtain ⟨ad8, hA8, hat, hok⟩ := SR.out.2.2.2.1.2.2.1.at_ (i := k) (by rw [HZL.out]; exact hkd)
      have hme := SR.out.2.2.2.1.zat (i := k) (by rw [HZL.out]; exact hkd) hkd
      have hre : re13 d k = (y.Z[k]'(by rw [HZL.out]; exact hkd)).m.q := by rw [re13, hd13, List.getElem?_eq_getElem hkd, hme]; rfl
      obtain ⟨-, -, -, g3, -⟩ := hat
      rw [← hre] at g3
      obtain ⟨u, hu⟩ : ∃ u, re13 d k = u := ⟨_, rfl⟩
      rw [hu] at g3
      have HU := Lib.hid hu
      have HA8 := Lib.hid hA8
      obtain ⟨-, -, ⟨d0, d1, d2, d3, d4⟩, -⟩ := SR.out
      rw [HN.out, hA8] at d3
      clear hme hok hre hu hA8
      cases u with
      | false =>
        go_wp2_with fail
        go_roundw
        case rel => exact ⟨k + 1, by omega, by go_num, SR⟩
        case measure => simp [intOf]; omega
      | true =>
        have hkk := HSD.out k hkd HU.out
        have HST := Lib.hid (pstores_v y d (k : Int) wr SR.out.2.2.2.1 (by have := HBS.out; omega))
        rw [Hid, so13T, if_neg (by omega), Int.toNat_natCast, hkk.1, dv, HN.out, HA8.out] at HST
        have HST := Lib.hid HST
        have HKK := Lib.hid hkk
        clear hkk
        go_wp2_with fail
        refine HST.out.mono ?_
        rintro r w6 ⟨rfl, hb⟩
        have S6 := Lib.hid (SR.out.call hb)
        clear HST hb SR d0 d1 d2 d3 d4 g3
        obtain ⟨g4, hg4, l0⟩ := S6.out.2.1 k (pu13 d k) (by rw [← HT4.out, List.getElem?_map, List.getElem?_range h1]; rfl)
        rw [sd13_pure HSY.out hkd HU.out] at l0
        subst hg4
        have HLE := Lib.hid (leadsT_v y d (k : Int) w6 S6.out.2.2.2.1 (by have := HBS.out; omega) HBL.out)
        rw [dv, HN.out, HA8.out] at HLE
        obtain ⟨-, -, ⟨d0, d1, d2, d3, d4⟩, -⟩ := S6.out
        rw [HN.out, HA8.out] at d3
        go_wp2_with fail
        refine HLE.out.mono ?_
        rintro r w7 ⟨A5, c5, rfl, ho, hb⟩
        obtain ⟨K, hK⟩ : ∃ K, (le11 d k).1 = K := ⟨_, rfl⟩
        obtain ⟨e5, he5⟩ : ∃ e5, (le11 d k).2 = e5 := ⟨_, rfl⟩
        rw [hK] at ho
        rw [hK, he5]
        obtain ⟨kn, hkl⟩ : ∃ kn, K.length = kn := ⟨_, rfl⟩
        rw [hkl] at ho ⊢
        have hkn9 : kn ≤ n := by rw [← hkl, ← hK, ← HN.out]; exact le13_len hkd
        have HLA : Hid (∀ i x, e5 = 0 → K[i]? = some x → ∃ j : Nat, x = (j : Int) ∧ j < n ∧ Le11 (e11 d) d.s.length k j) := Lib.hid fun i x h0 hx => by
          rw [← hK] at hx
          have := le13_at hkd (by rw [he5]; exact h0) hx
          rwa [HN.out] at this ⊢
        have HKL := Lib.hid hkl
        have S7 := Lib.hid ((S6.out.call hb).add (fN13 A5 c5 K) (Rn.of_own ho).1)
        clear HLE ho hb hK he5 hkl S6 d0 d1 d2 d3 d4 l0
        by_cases he : e5 = 0
        case neg =>
          have SF : Hid (Sx w w7 [fBc (some ⟨g4, 0, none⟩) T4, fD B y d, fQm y d]) := Lib.hid ⟨S7.out.1, S7.out.2.2⟩
          go_wp2_with fail
          go_loopw [10] (fun jv wq => jv = .int .i64 0 ∧ w7 = wq) (fun _ _ => 0)
          case atStart => exact ⟨rfl, rfl⟩
          case round =>
            obtain ⟨rfl, rfl⟩ := hrel
            go_wp2_with fail
            go_roundw
            case rel => exact ⟨k + 1, by omega, by go_num, SF⟩
            case measure => simp [intOf]; omega
        subst he
        go_wp2_with fail
        go_loopw [10] (fun jv wq => ∃ i : Nat, i ≤ kn ∧ jv = .int .i64 i ∧ Hid (Sx w wq [fN13 A5 c5 K, fBc (some ⟨g4, 0, none⟩) T4, fD B y d, fQm y d])) (fun jv _ => kn - (intOf jv).toNat)
        case atStart => exact ⟨0, by omega, rfl, S7⟩
        case round =>
          clear S7
          obtain ⟨i, hi, rfl, SQ⟩ := hrel
          rename World => wq
          by_cases h2 : i < kn
          · obtain ⟨x, hx⟩ : ∃ x, K[i]? = some x := ⟨_, List.getElem?_eq_getElem (by rw [HKL.out]; exact h2)⟩
            obtain ⟨j, rfl, hj, hle⟩ := HLA.out i x (by trivial) hx
            obtain ⟨bd, hA5, z0⟩ := SQ.out.2.1.at_ hx
            subst hA5
            have hjd : j < d.s.length := by rw [HN.out]; exact hj
            have hrj : re13 d j = true := sd13_leads HSY.out HU.out hle
            have hsj := (HSD.out j hjd hrj).1
            have HRD : Hid (∀ wx, Hid (Sx w wx [fN13 (some bd) c5 K, fBc (some ⟨g4, 0, none⟩) T4, fD B y d, fQm y d]) → wx.cell? ⟨(ad8.add (j * 8)).block, (ad8.add (j * 8)).off + 3, none⟩ = some (.bool true)) := Lib.hid fun wx S => by
              obtain ⟨ad', hA', hat, -⟩ := S.out.2.2.2.2.1.2.2.1.at_ (i := j) (by rw [HZL.out]; exact hjd)
              have hme := S.out.2.2.2.2.1.zat (i := j) (by rw [HZL.out]; exact hjd) hjd
              have hre : re13 d j = (y.Z[j]'(by rw [HZL.out]; exact hjd)).m.q := by rw [re13, hd13, List.getElem?_eq_getElem hjd, hme]; rfl
              rw [HA8.out] at hA'
              injection hA' with hA'
              subst hA'
              have g3 := hat.2.2.2.1
              rw [← hre, hrj] at g3
              exact g3
            have HST : Hid (∀ wx, Hid (Sx w wx [fN13 (some bd) c5 K, fBc (some ⟨g4, 0, none⟩) T4, fD B y d, fQm y d]) → Calls Try.prog 12 #[.agg #[.slice y.G d.g.length y.gc, .slice y.P d.p.length y.pc, .slice (some ad8) n y.c, .int .i64 d.i], .int .i64 (j : Int)] wx fun r w' => Bs13 wx w' (false, 0) r) := Lib.hid fun wx S => by
              have h := pstores_v y d (j : Int) wx S.out.2.2.2.2.1 (by have := HBS.out; omega)
              rw [so13T, if_neg (by omega), Int.toNat_natCast, hsj, dv, HN.out, HA8.out] at h
              exact h
            obtain ⟨-, -, -, ⟨d0, d1, d2, d3, d4⟩, -⟩ := SQ.out
            rw [HN.out, HA8.out] at d3
            have HS21 := Lib.hid (And.intro d1 (And.intro d2 (And.intro d3 (And.intro d4 (And.intro z0 (Lib.hid (SQ.out.drewN 1)))))))
            have HKE : Hid (∀ w', Below wq.drew.heap.size wq.drew w' → w'.cell? ⟨B, 0, none⟩ = some (.slice y.G d.g.length y.gc) ∧ w'.cell? ⟨B, 1, none⟩ = some (.slice y.P d.p.length y.pc) ∧ w'.cell? ⟨B, 2, none⟩ = some (.slice (some ad8) n y.c) ∧ w'.cell? ⟨B, 3, none⟩ = some (.int .i64 d.i) ∧ w'.cell? (bd.add i) = some (.int .i64 (j : Int)) ∧ Hid (Sx w w' [fN13 (some bd) c5 K, fBc (some ⟨g4, 0, none⟩) T4, fD B y d, fQm y d])) := Lib.hid fun w' hb => ⟨(hb.cell (cell_lt d1)).trans d1, (hb.cell (cell_lt d2)).trans d2, (hb.cell (cell_lt d3)).trans d3, (hb.cell (cell_lt d4)).trans d4, (hb.cell (cell_lt z0)).trans z0, Lib.hid ((SQ.out.drewN 1).call hb)⟩
            have HJ0 : Hid (decide ((j : Int) < 0) = false) := Lib.hid (by simp)
            have HJN : Hid (decide ((n : Int) ≤ (j : Int)) = false ∧ decide (n ≤ j) = false) := Lib.hid (by constructor <;> (simp; omega))
            have hjn2 : (j : Int) < (n : Int) := by omega
            clear hx hle hrj hsj d1 d2 d3 d4 d0 z0
            go_upto_region 21 with (fail)
            refine wp_region_held_drew (S := fun w' => w'.cell? ⟨B, 0, none⟩ = some (.slice y.G d.g.length y.gc) ∧ w'.cell? ⟨B, 1, none⟩ = some (.slice y.P d.p.length y.pc) ∧ w'.cell? ⟨B, 2, none⟩ = some (.slice (some ad8) n y.c) ∧ w'.cell? ⟨B, 3, none⟩ = some (.int .i64 d.i) ∧ w'.cell? (bd.add i) = some (.int .i64 (j : Int)) ∧ Hid (Sx w w' [fN13 (some bd) c5 K, fBc (some ⟨g4, 0, none⟩) T4, fD B y d, fQm y d])) (by kernel_rfl) (HS21.out) (fun hHeld => ?_)
            refine wpAnyH_take (i := 0) (v := ?_) rfl (by kernel_rfl) (by kernel_rfl) (by kernel_rfl) (fun _ _ _ h => h) (Or.inl ⟨by rfl, ?_⟩) (by assumption) ?_
            rotate_left 1
            · intro w hSw; (try dsimp only at hSw); obtain ⟨s0, s1, s2, s3, s4, s5⟩ := hSw; go_simp; try with_reducible rfl
            try simp only [Act.put, List.getElem_toArray, List.getElem_cons_zero, List.getElem_cons_succ, List.setIfInBounds_toArray, List.set_cons_zero, List.set_cons_succ]
            refine wpAnyH_take (i := 1) (v := ?_) rfl (by kernel_rfl) (by kernel_rfl) (by kernel_rfl) (fun _ _ _ h => h) (Or.inl ⟨by rfl, ?_⟩) (by assumption) ?_
            rotate_left 1
            · intro w _; go_simp; try with_reducible rfl
            try simp only [Act.put, List.getElem_toArray, List.getElem_cons_zero, List.getElem_cons_succ, List.setIfInBounds_toArray, List.set_cons_zero, List.set_cons_succ]
            refine wpAnyH_take (i := 2) (v := ?_) rfl (by kernel_rfl) (by kernel_rfl) (by kernel_rfl) (fun _ _ _ h => h) (Or.inl ⟨by rfl, ?_⟩) (by assumption) ?_
            rotate_left 1
            · intro w _; go_simp; try with_reducible rfl
            try simp only [Act.put, List.getElem_toArray, List.getElem_cons_zero, List.getElem_cons_succ, List.setIfInBounds_toArray, List.set_cons_zero, List.set_cons_succ]
            refine wpAnyH_take (i := 3) (v := ?_) rfl (by kernel_rfl) (by kernel_rfl) (by kernel_rfl) (fun _ _ _ h => h) (Or.inl ⟨by rfl, ?_⟩) (by assumption) ?_
            rotate_left 1
            · intro w _; go_simp; try with_reducible rfl
            try simp only [Act.put, List.getElem_toArray, List.getElem_cons_zero, List.getElem_cons_succ, List.setIfInBounds_toArray, List.set_cons_zero, List.set_cons_succ]
            refine wpAnyH_take (i := 4) (v := ?_) rfl (by kernel_rfl) (by kernel_rfl) (by kernel_rfl) (fun _ _ _ h => h) (Or.inl ⟨by rfl, ?_⟩) (by assumption) ?_
            rotate_left 1
            · intro w hSw; (try dsimp only at hSw); obtain ⟨s0, s1, s2, s3, s4, s5⟩ := hSw; go_simp; try with_reducible rfl
            try simp only [Act.put, List.getElem_toArray, List.getElem_cons_zero, List.getElem_cons_succ, List.setIfInBounds_toArray, List.set_cons_zero, List.set_cons_succ]
            refine wpAnyH_ready (rs := [5]) (by kernel_rfl) (by simp) ?_
            refine AllReadyH.cons rfl (fun K hK => ?_) AllReadyH.nil
            go_simp
            refine (HST.out _ hHeld.2.2.2.2.2).mono ?_
            rintro r w8 ⟨rfl, hb⟩
            have S7 := HKE.out _ hb
            clear hb
            go_wp2_with fail
            refine hK.out _ _ (S7) (fun hHeld => ?_)
            clear hK K
            try simp only [Act.put, List.getElem_toArray, List.getElem_cons_zero, List.getElem_cons_succ, List.setIfInBounds_toArray, List.set_cons_zero, List.set_cons_succ]
            refine wpAnyH_take (i := 6) (v := ?_) rfl (by kernel_rfl) (by kernel_rfl) (by kernel_rfl) (fun _ _ _ h => h) (Or.inl ⟨by rfl, ?_⟩) (by assumption) ?_
            rotate_left 1
            · intro w _; go_simp; try with_reducible rfl
            try simp only [Act.put, List.getElem_toArray, List.getElem_cons_zero, List.getElem_cons_succ, List.setIfInBounds_toArray, List.set_cons_zero, List.set_cons_succ]
            refine wpAnyH_take (i := 7) (v := ?_) rfl (by kernel_rfl) (by kernel_rfl) (by kernel_rfl) (fun _ _ _ h => h) (Or.inl ⟨by rfl, ?_⟩) (by assumption) ?_
            rotate_left 1
            · intro w _; go_simp; try with_reducible rfl
            try simp only [Act.put, List.getElem_toArray, List.getElem_cons_zero, List.getElem_cons_succ, List.setIfInBounds_toArray, List.set_cons_zero, List.set_cons_succ]
            refine wpAnyH_take (i := 8) (v := ?_) rfl (by kernel_rfl) (by kernel_rfl) (by kernel_rfl) (fun _ _ _ h => h) (Or.inl ⟨by rfl, ?_⟩) (by assumption) ?_
            rotate_left 1
            · intro w _; go_simp; try with_reducible rfl
            try simp only [Act.put, List.getElem_toArray, List.getElem_cons_zero, List.getElem_cons_succ, List.setIfInBounds_toArray, List.set_cons_zero, List.set_cons_succ]
            refine wpAnyH_take (i := 9) (v := ?_) rfl (by kernel_rfl) (by kernel_rfl) (by kernel_rfl) (fun _ _ _ h => h) (Or.inl ⟨by rfl, ?_⟩) (by assumption) ?_
            rotate_left 1
            · intro w _; go_simp; try with_reducible rfl
            try simp only [Act.put, List.getElem_toArray, List.getElem_cons_zero, List.getElem_cons_succ, List.setIfInBounds_toArray, List.set_cons_zero, List.set_cons_succ]
            refine wpAnyH_take (i := 10) (v := ?_) rfl (by kernel_rfl) (by kernel_rfl) (by kernel_rfl) (fun _ _ _ h => h) (Or.inl ⟨by rfl, ?_⟩) (by assumption) ?_
            rotate_left 1
            · intro w _; go_simp; try with_reducible rfl
            try simp only [Act.put, List.getElem_toArray, List.getElem_cons_zero, List.getElem_cons_succ, List.setIfInBounds_toArray, List.set_cons_zero, List.set_cons_succ]
            refine wpAnyH_done (by kernel_rfl) ?_ _
            clear hHeld
            go_upto_region 22 with (fail)
            have z3 := HRD.out _ S7.2.2.2.2.2
            have hj0 := HJ0.out
            obtain ⟨hjn, hjn3⟩ := HJN.out
            refine wp_region_held_drew (S := fun w' => w'.cell? ⟨B, 2, none⟩ = some (.slice (some ad8) n y.c) ∧ w'.cell? (bd.add i) = some (.int .i64 (j : Int)) ∧ w'.cell? ⟨(ad8.add (j * 8)).block, (ad8.add (j * 8)).off + 3, none⟩ = some (.bool true) ∧ Hid (Sx w w' [fN13 (some bd) c5 K, fBc (some ⟨g4, 0, none⟩) T4, fD B y d, fQm y d])) (by kernel_rfl) (⟨S7.2.2.1, S7.2.2.2.2.1, z3, Lib.hid (S7.2.2.2.2.2.out.drewN 1)⟩) (fun hHeld => ?_)
            refine wpAnyH_take (i := 0) (v := ?_) rfl (by kernel_rfl) (by kernel_rfl) (by kernel_rfl) (fun _ _ _ h => h) (Or.inl ⟨by rfl, ?_⟩) (by assumption) ?_
            rotate_left 1
            · intro w _; go_simp; try with_reducible rfl
            try simp only [Act.put, List.getElem_toArray, List.getElem_cons_zero, List.getElem_cons_succ, List.setIfInBounds_toArray, List.set_cons_zero, List.set_cons_succ]
            refine wpAnyH_take (i := 1) (v := ?_) rfl (by kernel_rfl) (by kernel_rfl) (by kernel_rfl) (fun _ _ _ h => h) (Or.inl ⟨by rfl, ?_⟩) (by assumption) ?_
            rotate_left 1
            · intro w _; go_simp; try with_reducible rfl
            try simp only [Act.put, List.getElem_toArray, List.getElem_cons_zero, List.getElem_cons_succ, List.setIfInBounds_toArray, List.set_cons_zero, List.set_cons_succ]
            refine wpAnyH_take (i := 2) (v := ?_) rfl (by kernel_rfl) (by kernel_rfl) (by kernel_rfl) (fun _ _ _ h => h) (Or.inl ⟨by rfl, ?_⟩) (by assumption) ?_
            rotate_left 1
            · intro w _; go_simp; try with_reducible rfl
            try simp only [Act.put, List.getElem_toArray, List.getElem_cons_zero, List.getElem_cons_succ, List.setIfInBounds_toArray, List.set_cons_zero, List.set_cons_succ]
            refine wpAnyH_take (i := 3) (v := ?_) rfl (by kernel_rfl) (by kernel_rfl) (by kernel_rfl) (fun _ _ _ h => h) (Or.inl ⟨by rfl, ?_⟩) (by assumption) ?_
            rotate_left 1
            · intro w _; go_simp; try with_reducible rfl
            try simp only [Act.put, List.getElem_toArray, List.getElem_cons_zero, List.getElem_cons_succ, List.setIfInBounds_toArray, List.set_cons_zero, List.set_cons_succ]
            refine wpAnyH_take (i := 4) (v := ?_) rfl (by kernel_rfl) (by kernel_rfl) (by kernel_rfl) (fun _ _ _ h => h) (Or.inl ⟨by rfl, ?_⟩) (by assumption) ?_
            rotate_left 1
            · intro w _; go_simp; try with_reducible rfl
            try simp only [Act.put, List.getElem_toArray, List.getElem_cons_zero, List.getElem_cons_succ, List.setIfInBounds_toArray, List.set_cons_zero, List.set_cons_succ]
            refine wpAnyH_take (i := 5) (v := ?_) rfl (by kernel_rfl) (by kernel_rfl) (by kernel_rfl) (fun _ _ _ h => h) (Or.inl ⟨by rfl, ?_⟩) (by assumption) ?_
            rotate_left 1
            · intro w hSw; (try dsimp only at hSw); obtain ⟨s0, s1, s2, s3⟩ := hSw; go_simp; try with_reducible rfl
            try simp only [Act.put, List.getElem_toArray, List.getElem_cons_zero, List.getElem_cons_succ, List.setIfInBounds_toArray, List.set_cons_zero, List.set_cons_succ]
            refine wpAnyH_take (i := 6) (v := ?_) rfl (by kernel_rfl) (by kernel_rfl) (by kernel_rfl) (fun _ _ _ h => h) (Or.inl ⟨by rfl, ?_⟩) (by assumption) ?_
            rotate_left 1
            · intro w _; go_simp; try with_reducible rfl
            try simp only [Act.put, List.getElem_toArray, List.getElem_cons_zero, List.getElem_cons_succ, List.setIfInBounds_toArray, List.set_cons_zero, List.set_cons_succ]
            refine wpAnyH_take (i := 7) (v := ?_) rfl (by kernel_rfl) (by kernel_rfl) (by kernel_rfl) (fun _ _ _ h => h) (Or.inl ⟨by rfl, ?_⟩) (by assumption) ?_
            rotate_left 1
            · intro w _; go_simp; try with_reducible rfl
            try simp only [Act.put, List.getElem_toArray, List.getElem_cons_zero, List.getElem_cons_succ, List.setIfInBounds_toArray, List.set_cons_zero, List.set_cons_succ]
            refine wpAnyH_take (i := 8) (v := ?_) rfl (by kernel_rfl) (by kernel_rfl) (by kernel_rfl) (fun _ _ _ h => h) (Or.inl ⟨by rfl, ?_⟩) (by assumption) ?_
            rotate_left 1
            · intro w _; go_simp; try with_reducible rfl
            try simp only [Act.put, List.getElem_toArray, List.getElem_cons_zero, List.getElem_cons_succ, List.setIfInBounds_toArray, List.set_cons_zero, List.set_cons_succ]
            refine wpAnyH_take (i := 9) (v := ?_) rfl (by kernel_rfl) (by kernel_rfl) (by kernel_rfl) (fun _ _ _ h => h) (Or.inl ⟨by rfl, ?_⟩) (by assumption) ?_
            rotate_left 1
            · intro w _; go_simp; try with_reducible rfl
            try simp only [Act.put, List.getElem_toArray, List.getElem_cons_zero, List.getElem_cons_succ, List.setIfInBounds_toArray, List.set_cons_zero, List.set_cons_succ]
            refine wpAnyH_take (i := 10) (v := ?_) rfl (by kernel_rfl) (by kernel_rfl) (by kernel_rfl) (fun _ _ _ h => h) (Or.inl ⟨by rfl, ?_⟩) (by assumption) ?_
            rotate_left 1
            · intro w _; go_simp; try with_reducible rfl
            try simp only [Act.put, List.getElem_toArray, List.getElem_cons_zero, List.getElem_cons_succ, List.setIfInBounds_toArray, List.set_cons_zero, List.set_cons_succ]
            refine wpAnyH_take (i := 11) (v := ?_) rfl (by kernel_rfl) (by kernel_rfl) (by kernel_rfl) (fun _ _ _ h => h) (Or.inl ⟨by rfl, ?_⟩) (by assumption) ?_
            rotate_left 1
            · intro w _; go_simp; try with_reducible rfl
            try simp only [Act.put, List.getElem_toArray, List.getElem_cons_zero, List.getElem_cons_succ, List.setIfInBounds_toArray, List.set_cons_zero, List.set_cons_succ]
            refine wpAnyH_take (i := 12) (v := ?_) rfl (by kernel_rfl) (by kernel_rfl) (by kernel_rfl) (fun _ _ _ h => h) (Or.inl ⟨by rfl, ?_⟩) (by assumption) ?_
            rotate_left 1
            · intro w hSw; (try dsimp only at hSw); obtain ⟨s0, s1, s2, s3⟩ := hSw; go_simp; try with_reducible rfl
            try simp only [Act.put, List.getElem_toArray, List.getElem_cons_zero, List.getElem_cons_succ, List.setIfInBounds_toArray, List.set_cons_zero, List.set_cons_succ]
            refine wpAnyH_take (i := 13) (v := ?_) rfl (by kernel_rfl) (by kernel_rfl) (by kernel_rfl) (fun _ _ _ h => h) (Or.inl ⟨by rfl, ?_⟩) (by assumption) ?_
            rotate_left 1
            · intro w _; go_simp; try with_reducible rfl
            try simp only [Act.put, List.getElem_toArray, List.getElem_cons_zero, List.getElem_cons_succ, List.setIfInBounds_toArray, List.set_cons_zero, List.set_cons_succ]
            refine wpAnyH_take (i := 14) (v := ?_) rfl (by kernel_rfl) (by kernel_rfl) (by kernel_rfl) (fun _ _ _ h => h) (Or.inl ⟨by rfl, ?_⟩) (by assumption) ?_
            rotate_left 1
            · intro w hSw; (try dsimp only at hSw); obtain ⟨s0, s1, s2, s3⟩ := hSw; go_simp; try with_reducible rfl
            try simp only [Act.put, List.getElem_toArray, List.getElem_cons_zero, List.getElem_cons_succ, List.setIfInBounds_toArray, List.set_cons_zero, List.set_cons_succ]
            refine wpAnyH_take (i := 15) (v := ?_) rfl (by kernel_rfl) (by kernel_rfl) (by kernel_rfl) (fun _ _ _ h => h) (Or.inl ⟨by rfl, ?_⟩) (by assumption) ?_
            rotate_left 1
            · intro w _; go_simp; try with_reducible rfl
            try simp only [Act.put, List.getElem_toArray, List.getElem_cons_zero, List.getElem_cons_succ, List.setIfInBounds_toArray, List.set_cons_zero, List.set_cons_succ]
            refine wpAnyH_take (i := 16) (v := ?_) rfl (by kernel_rfl) (by kernel_rfl) (by kernel_rfl) (fun _ _ _ h => h) (Or.inl ⟨by rfl, ?_⟩) (by assumption) ?_
            rotate_left 1
            · intro w _; go_simp; try with_reducible rfl
            try simp only [Act.put, List.getElem_toArray, List.getElem_cons_zero, List.getElem_cons_succ, List.setIfInBounds_toArray, List.set_cons_zero, List.set_cons_succ]
            refine wpAnyH_take (i := 17) (v := ?_) rfl (by kernel_rfl) (by kernel_rfl) (by kernel_rfl) (fun _ _ _ h => h) (Or.inl ⟨by rfl, ?_⟩) (by assumption) ?_
            rotate_left 1
            · intro w _; go_simp; try with_reducible rfl
            try simp only [Act.put, List.getElem_toArray, List.getElem_cons_zero, List.getElem_cons_succ, List.setIfInBounds_toArray, List.set_cons_zero, List.set_cons_succ]
            refine wpAnyH_take (i := 18) (v := ?_) rfl (by kernel_rfl) (by kernel_rfl) (by kernel_rfl) (fun _ _ _ h => h) (Or.inl ⟨by rfl, ?_⟩) (by assumption) ?_
            rotate_left 1
            · intro w _; go_simp; try with_reducible rfl
            try simp only [Act.put, List.getElem_toArray, List.getElem_cons_zero, List.getElem_cons_succ, List.setIfInBounds_toArray, List.set_cons_zero, List.set_cons_succ]
            refine wpAnyH_take (i := 19) (v := ?_) rfl (by kernel_rfl) (by kernel_rfl) (by kernel_rfl) (fun _ _ _ h => h) (Or.inl ⟨by rfl, ?_⟩) (by assumption) ?_
            rotate_left 1
            · intro w _; go_simp; try with_reducible rfl
            try simp only [Act.put, List.getElem_toArray, List.getElem_cons_zero, List.getElem_cons_succ, List.setIfInBounds_toArray, List.set_cons_zero, List.set_cons_succ]
            refine wpAnyH_take (i := 20) (v := ?_) rfl (by kernel_rfl) (by kernel_rfl) (by kernel_rfl) (fun _ _ _ h => h) (Or.inl ⟨by rfl, ?_⟩) (by assumption) ?_
            rotate_left 1
            · intro w hSw; (try dsimp only at hSw); obtain ⟨s0, s1, s2, s3⟩ := hSw; go_simp; try with_reducible rfl
            try simp only [Act.put, List.getElem_toArray, List.getElem_cons_zero, List.getElem_cons_succ, List.setIfInBounds_toArray, List.set_cons_zero, List.set_cons_succ]
            refine wpAnyH_take (i := 21) (v := ?_) rfl (by kernel_rfl) (by kernel_rfl) (by kernel_rfl) (fun _ _ _ h => h) (Or.inl ⟨by rfl, ?_⟩) (by assumption) ?_
            rotate_left 1
            · intro w _; go_simp; try with_reducible rfl
            try simp only [Act.put, List.getElem_toArray, List.getElem_cons_zero, List.getElem_cons_succ, List.setIfInBounds_toArray, List.set_cons_zero, List.set_cons_succ]
            refine wpAnyH_take (i := 22) (v := ?_) rfl (by kernel_rfl) (by kernel_rfl) (by kernel_rfl) (fun _ _ _ h => h) (Or.inl ⟨by rfl, ?_⟩) (by assumption) ?_
            rotate_left 1
            · intro w _; go_simp; try with_reducible rfl
            try simp only [Act.put, List.getElem_toArray, List.getElem_cons_zero, List.getElem_cons_succ, List.setIfInBounds_toArray, List.set_cons_zero, List.set_cons_succ]
            refine wpAnyH_take (i := 23) (v := ?_) rfl (by kernel_rfl) (by kernel_rfl) (by kernel_rfl) (fun _ _ _ h => h) (Or.inl ⟨by rfl, ?_⟩) (by assumption) ?_
            rotate_left 1
            · intro w _; go_simp; try with_reducible rfl
            try simp only [Act.put, List.getElem_toArray, List.getElem_cons_zero, List.getElem_cons_succ, List.setIfInBounds_toArray, List.set_cons_zero, List.set_cons_succ]
            refine wpAnyH_take (i := 24) (v := ?_) rfl (by kernel_rfl) (by kernel_rfl) (by kernel_rfl) (fun _ _ _ h => h) (Or.inl ⟨by rfl, ?_⟩) (by assumption) ?_
            rotate_left 1
            · intro w hSw; (try dsimp only at hSw); obtain ⟨s0, s1, s2, s3⟩ := hSw; go_simp; try with_reducible rfl
            try simp only [Act.put, List.getElem_toArray, List.getElem_cons_zero, List.getElem_cons_succ, List.setIfInBounds_toArray, List.set_cons_zero, List.set_cons_succ]
            refine wpAnyH_take (i := 25) (v := ?_) rfl (by kernel_rfl) (by kernel_rfl) (by kernel_rfl) (fun _ _ _ h => h) (Or.inl ⟨by rfl, ?_⟩) (by assumption) ?_
            rotate_left 1
            · intro w _; go_simp; try with_reducible rfl
            try simp only [Act.put, List.getElem_toArray, List.getElem_cons_zero, List.getElem_cons_succ, List.setIfInBounds_toArray, List.set_cons_zero, List.set_cons_succ]
            refine wpAnyH_take (i := 26) (v := ?_) rfl (by kernel_rfl) (by kernel_rfl) (by kernel_rfl) (fun _ _ _ h => h) (Or.inl ⟨by rfl, ?_⟩) (by assumption) ?_
            rotate_left 1
            · intro w _; go_simp; try with_reducible rfl
            try simp only [Act.put, List.getElem_toArray, List.getElem_cons_zero, List.getElem_cons_succ, List.setIfInBounds_toArray, List.set_cons_zero, List.set_cons_succ]
            refine wpAnyH_take (i := 27) (v := ?_) rfl (by kernel_rfl) (by kernel_rfl) (by kernel_rfl) (fun _ _ _ h => h) (Or.inl ⟨by rfl, ?_⟩) (by assumption) ?_
            rotate_left 1
            · intro w hSw; (try dsimp only at hSw); obtain ⟨s0, s1, s2, s3⟩ := hSw; go_simp; try with_reducible rfl
            try simp only [Act.put, List.getElem_toArray, List.getElem_cons_zero, List.getElem_cons_succ, List.setIfInBounds_toArray, List.set_cons_zero, List.set_cons_succ]
            refine wpAnyH_take (i := 28) (v := ?_) rfl (by kernel_rfl) (by kernel_rfl) (by kernel_rfl) (fun _ _ _ h => h) (Or.inl ⟨by rfl, ?_⟩) (by assumption) ?_
            rotate_left 1
            · intro w _; go_simp; try with_reducible rfl
            try simp only [Act.put, List.getElem_toArray, List.getElem_cons_zero, List.getElem_cons_succ, List.setIfInBounds_toArray, List.set_cons_zero, List.set_cons_succ]
            refine wpAnyH_take (i := 29) (v := ?_) rfl (by kernel_rfl) (by kernel_rfl) (by kernel_rfl) (fun _ _ _ h => h) (Or.inl ⟨by rfl, ?_⟩) (by assumption) ?_
            rotate_left 1
            · intro w _; go_simp; try with_reducible rfl
            try simp only [Act.put, List.getElem_toArray, List.getElem_cons_zero, List.getElem_cons_succ, List.setIfInBounds_toArray, List.set_cons_zero, List.set_cons_succ]
            refine wpAnyH_done (by kernel_rfl) ?_ _
            clear hHeld
            have SF := Lib.hid (S7.2.2.2.2.2.out.drewN 1)
            clear S7 z3
            go_wp2_with fail
            go_roundw
            case rel => exact ⟨i + 1, by omega, by go_num, SF⟩
            case measure => simp [intOf]; omega
          · obtain rfl : kn = i := by omega
            have SF : Hid (Sx w wq [fBc (some ⟨g4, 0, none⟩) T4, fD B y d, fQm y d]) := Lib.hid ⟨SQ.out.1, SQ.out.2.2⟩
            go_wp2_with fail
            go_roundw
            case rel => exact ⟨k + 1, by omega, by go_num, SF⟩
            case measure => simp [intOf]; omega
    · obtain rfl : n = k := by omega
      go_wp2_with fail
      go_ret
      exact ⟨rfl, SR.out.1⟩
end Go.Proofs.Ytimjnmkfbdijeaa
