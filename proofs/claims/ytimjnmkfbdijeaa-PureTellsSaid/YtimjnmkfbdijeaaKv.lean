/-
  Layer 13's law PureMost.
-/
import Derived.Test.YtimjnmkfbdijeaaKu
namespace Go.Proofs.Ytimjnmkfbdijeaa
open Go.RowKit
set_option maxRecDepth 100000
set_option linter.unusedSimpArgs false
set_option linter.unusedVariables false

abbrev fOw13 (lo hi : Nat) (y : Ma) (d : Md) : Fct := ⟨fun w => Ow w lo hi y d, fun _ _ h hb => h.keep hb⟩
theorem sy13_bl {d : Md} {f : Nat → Bool} (h : ∀ z ∈ d.s, z.2.length ≤ 1000) : ∀ z ∈ (sy13 d f).s, z.2.length ≤ 1000 := by
  intro z hz
  obtain ⟨k, hk, rfl⟩ := List.mem_map.1 hz
  have hk := List.mem_range.1 hk
  dsimp only
  rw [co11, List.getElem?_eq_getElem hk]
  exact h _ (List.getElem_mem hk)
theorem sy13_set {d : Md} {f : Nat → Bool} {k : Nat} {m : Mh} {c : List Ins} (hz : (sy13 d f).s[k]? = some (m, c)) : (sy13 d f).s.set k ({ m with q := true }, c) = (sy13 d fun j => f j || j == k).s := by
  have hk : k < d.s.length := by have := (List.getElem?_eq_some_iff.1 hz).1; rwa [sy13_len] at this
  apply List.ext_getElem?
  intro j
  by_cases hj : j < d.s.length
  · rw [sy13_at hj]
    by_cases h : j = k
    · subst h
      rw [sy13_at hj] at hz
      injection hz with hz
      injection hz with h1 h2
      subst h1 h2
      rw [List.getElem?_set_self (by rw [sy13_len]; exact hj)]
      simp
    · have e : (j == k) = false := by simpa using h
      rw [List.getElem?_set_ne (fun e => h e.symm), sy13_at hj, e, Bool.or_false]
  · rw [List.getElem?_eq_none (by rw [List.length_set, sy13_len]; omega), List.getElem?_eq_none (by rw [sy13_len]; omega)]
theorem ch13_say {d : Md} (h : ba11 d = false) : ch13 (sy13 d (pu13 d)) = 0 := by
  rw [ch13, sy13_ba, if_neg (by rw [h]; simp), if_pos (sd13_say d)]
theorem ch13_one {d : Md} {k : Nat} (h : ba11 d = false) (hk : k < d.s.length) (hp : pu13 d k = false) : ch13 (sy13 d fun j => pu13 d j || j == k) = 130 := by
  rw [ch13, sy13_ba, if_neg (by rw [h]; simp), if_neg (by rw [sd13_one hk hp]; simp)]
set_option maxHeartbeats 8000000 in
theorem most13_walk (y : Ma) (d : Md) (k : Int) (w : World) (hq : Hq w y d) : Calls Try.prog 5 #[dv y d, .int .i64 k] w fun r w' => r = .returned (.bool true) ∧ Below w.heap.size w w' := by
  have HZL := Lib.hid hq.zlen
  have S0 := Lib.hid ((((Sx.start w).add (fQm y d) hq).mkD y d))
  obtain ⟨B, hB⟩ : ∃ B, w.heap.size = B := ⟨_, rfl⟩
  have HBB := Lib.hid hB
  rw [hB] at S0
  clear hq
  go_enter Try.func5, Try.ntmps5
  go_upto_region 1 with (fail)
  change Code.wp _ _ _ _ (w.alloc (dcel y d))
  generalize w.alloc (dcel y d) = w1 at S0 ⊢
  clear hB
  have HAW := Lib.hid (awake13_v w1)
  go_wp2_with fail
  refine HAW.out.mono ?_
  rintro r w2 ⟨rfl, hb⟩
  have S2 := Lib.hid (S0.out.call hb)
  clear HAW hb S0
  have HGR := Lib.hid (great8_v y d w2 S2.out.2.2.1)
  obtain ⟨-, ⟨d0, d1, d2, d3, d4⟩, -⟩ := S2.out
  go_wp2_with fail
  refine HGR.out.mono ?_
  rintro r w3 ⟨rfl, hb⟩
  have S3 := Lib.hid (S2.out.call hb)
  clear HGR hb S2 d0 d1 d2 d3 d4
  cases hg : qG d with
  | true =>
    go_wp2_with fail
    go_ret
    exact ⟨rfl, S3.out.1⟩
  | false =>
  obtain ⟨hs40, hbl⟩ := qG_bs hg
  obtain ⟨bg, bp, -, bz⟩ := qG_bd S3.out.2.2.1 hg
  have HBL := Lib.hid hbl
  have HBS := Lib.hid hs40
  have HSA := Lib.hid (say13_v y d w3 S3.out.2.2.1 (by omega) hbl (by omega) (by omega) (fun z hz => by have := bz z hz; omega))
  have HW3 : Hid (w.heap.size ≤ w3.heap.size) := Lib.hid S3.out.1.size
  clear hg hbl bg bp bz
  obtain ⟨-, ⟨d0, d1, d2, d3, d4⟩, -⟩ := S3.out
  go_wp2_with fail
  refine HSA.out.mono ?_
  rintro r w4 ⟨t, rfl, hqt, hot, hb⟩
  cases hba : ba11 d with
  | true =>
    have hst : sy13T d = (Md.zero, 2) := by rw [sy13T, if_pos hba]
    have hpt : pu13T d = ([], 2) := by rw [pu13T, if_pos hba]
    have HCH : Hid (ch13 d = 2) := Lib.hid (by rw [ch13, if_pos hba])
    rw [hst]
    have S4 := Lib.hid (S3.out.call hb)
    clear hqt hot hb HSA S3 hba hst d0 d1 d2 d3 d4
    dsimp only
    go_upto_region 6 with (fail)
    have S5 := Lib.hid (S4.out.mk1 (.cells #[.slice t.G Md.zero.g.length t.gc, .slice t.P Md.zero.p.length t.pc, .slice t.A Md.zero.s.length t.c, .int .i64 Md.zero.i] 25))
    generalize w4.alloc (.cells #[.slice t.G Md.zero.g.length t.gc, .slice t.P Md.zero.p.length t.pc, .slice t.A Md.zero.s.length t.c, .int .i64 Md.zero.i] 25) = w5 at S5 ⊢
    have HPU := Lib.hid (pure13_v y d w5 S5.out.2.2.1 (by have := HBS.out; omega) HBL.out)
    rw [hpt] at HPU
    obtain ⟨-, ⟨d0, d1, d2, d3, d4⟩, -⟩ := S5.out
    clear S4 hpt
    go_wp2_with fail
    refine HPU.out.mono ?_
    rintro r w6 ⟨A6, c6, rfl, -, hb⟩
    have S6 := Lib.hid (S5.out.call hb)
    clear hb HPU S5 d0 d1 d2 d3 d4
    have HCK := Lib.hid (check13_v y d w6 S6.out.2.2.1 (by have := HBS.out; omega) HBL.out)
    rw [HCH.out] at HCK
    obtain ⟨-, ⟨d0, d1, d2, d3, d4⟩, -⟩ := S6.out
    dsimp only
    go_wp2_with fail
    refine HCK.out.mono ?_
    rintro r w7 ⟨rfl, hb⟩
    have S7 := Lib.hid (S6.out.call hb)
    clear hb HCK S6 d0 d1 d2 d3 d4
    go_wp2_with fail
    go_ret
    exact ⟨rfl, S7.out.1⟩
  | false =>
  have hst : sy13T d = (sy13 d (pu13 d), 0) := by rw [sy13T, if_neg (by rw [hba]; simp)]
  rw [hst] at hqt hot ⊢
  obtain ⟨e, he⟩ : ∃ e, sy13 d (pu13 d) = e := ⟨_, rfl⟩
  dsimp only at hqt hot ⊢
  rw [he] at hqt hot ⊢
  obtain ⟨n, hn⟩ : ∃ n, d.s.length = n := ⟨_, rfl⟩
  have HN := Lib.hid hn
  have hn40 : n ≤ 40 := by rw [← hn]; exact HBS.out
  have HBA := Lib.hid hba
  have HE := Lib.hid he
  have HEL : Hid (e.s.length = n) := Lib.hid (by rw [← he, sy13_len, hn])
  obtain ⟨lo, hlo⟩ : ∃ lo, w3.heap.size = lo := ⟨_, rfl⟩
  obtain ⟨V, hV⟩ : ∃ V, w4.heap.size = V := ⟨_, rfl⟩
  rw [hlo] at hot HW3
  have S4 := Lib.hid ((((S3.out.call hb).add (fQm t e) hqt).add (fOw13 lo w4.heap.size t e) hot).mkD t e)
  have hpt : pu13T d = ((List.range n).map (pu13 d), 0) := by rw [pu13T, if_neg (by rw [hba]; simp), hn]
  clear hqt hot hb HSA S3 hst hba he d0 d1 d2 d3 d4 hlo
  go_upto_region 6 with (fail)
  rw [hV] at S4
  change Code.wp _ _ _ _ (w4.alloc (dcel t e))
  generalize w4.alloc (dcel t e) = w5 at S4 ⊢
  clear hV
  have HPU := Lib.hid (pure13_v y d w5 S4.out.2.2.2.2.2.1 (by have := HBS.out; omega) HBL.out)
  rw [hpt, dv, hn] at HPU
  obtain ⟨-, -, -, -, ⟨d0, d1, d2, d3, d4⟩, -⟩ := S4.out
  rw [hn] at d3
  have hlm : ((List.range n).map (pu13 d)).length = n := by rw [List.length_map, List.length_range]
  clear hpt hn
  go_wp2_with fail
  refine HPU.out.mono ?_
  rintro r w6 ⟨A5, c5, rfl, ho, hb⟩
  dsimp only at ho ⊢
  rw [hlm] at ho ⊢
  obtain ⟨T5, hT5⟩ : ∃ T5, (List.range n).map (pu13 d) = T5 := ⟨_, rfl⟩
  rw [hT5] at ho
  have HT5 := Lib.hid hT5
  have S6 := Lib.hid ((S4.out.call hb).add (fBc A5 T5) (fBc_of ho))
  clear HPU ho hb S4 d0 d1 d2 d3 d4 hlm hT5
  have HCK := Lib.hid (check13_v t e w6 S6.out.2.2.2.2.1 (by rw [HEL.out, ← HN.out]; have := HBS.out; omega) (by rw [← HE.out]; exact sy13_bl HBL.out))
  rw [dv, HEL.out, ← HE.out, ch13_say HBA.out, HE.out] at HCK
  obtain ⟨-, -, ⟨v0, v1, v2, v3, v4⟩, -, -, ⟨d0, d1, d2, d3, d4⟩, -⟩ := S6.out
  rw [HN.out] at d3
  rw [HEL.out] at v3
  go_wp2_with fail
  refine HCK.out.mono ?_
  rintro r w7 ⟨rfl, hb⟩
  have S7 := Lib.hid (S6.out.call hb)
  clear hb HCK S6 d0 d1 d2 d3 d4 v0 v1 v2 v3 v4
  go_wp2_with fail
  go_loopw [9] (fun iv wr => ∃ i : Nat, i ≤ n ∧ iv = .int .i64 i ∧ Hid (Sx w wr [fBc A5 T5, fD V t e, fOw13 lo V t e, fQm t e, fD B y d, fQm y d])) (fun iv _ => n - (intOf iv).toNat)
  case atStart => exact ⟨0, by omega, rfl, S7⟩
  case round =>
    clear S7
    obtain ⟨i, hi, rfl, SQ⟩ := hrel
    rename World => wq
    by_cases h1 : i < n
    · obtain ⟨gm, kk, z, hA, hk, hg1, hg2, hz, hzj, hat, hok, hoz, hfr⟩ := rows13 SQ.out.2.2.2.2.1 SQ.out.2.2.2.1 (j := i) (by rw [HEL.out]; exact h1)
      obtain ⟨v, hv⟩ : ∃ v, pu13 d i = v := ⟨_, rfl⟩
      have hzq : z.m.q = v := by
        have h2 : re13 e i = v := by rw [← HE.out, sy13_re (by rw [HN.out]; exact h1), hv]
        rw [re13, hd13, List.getElem?_eq_getElem (by rw [HEL.out]; exact h1), ← hzj] at h2
        exact h2
      obtain ⟨g5, hg5, l0⟩ := SQ.out.2.1 i v (by rw [← HT5.out, List.getElem?_map, List.getElem?_range h1, ← hv]; rfl)
      subst hg5
      obtain ⟨-, -, ⟨v0, v1, v2, v3, v4⟩, -⟩ := SQ.out
      rw [HEL.out, hA] at v3
      have x3 := hat.2.2.2.1
      rw [hzq] at x3
      dsimp only at x3
      clear hA hk hg1 hg2 hz hzj hat hok hoz hfr hzq hv v0 v1 v2 v4
      go_upto_region 14 with (fail)
      refine wp_region_held_drew (S := fun w' => w'.cell? ⟨V, 2, none⟩ = some (.slice (some ⟨gm, 0, none⟩) n t.c) ∧ w'.cell? ⟨gm, i * 8 + 3, none⟩ = some (.bool v) ∧ w'.cell? ⟨g5, i, none⟩ = some (.bool v)) (by kernel_rfl) (⟨v3, x3, l0⟩) (fun hHeld => ?_)
      refine wpAnyH_take (i := 0) (v := ?_) rfl (by kernel_rfl) (by kernel_rfl) (by kernel_rfl) (fun _ _ _ h => h) (Or.inl ⟨by rfl, ?_⟩) (by assumption) ?_
      rotate_left 1
      · intro w _; go_simp; try with_reducible rfl
      try simp only [Act.put, List.getElem_toArray, List.getElem_cons_zero, List.getElem_cons_succ, List.setIfInBounds_toArray, List.set_cons_zero, List.set_cons_succ]
      refine wpAnyH_take (i := 1) (v := ?_) rfl (by kernel_rfl) (by kernel_rfl) (by kernel_rfl) (fun _ _ _ h => h) (Or.inl ⟨by rfl, ?_⟩) (by assumption) ?_
      rotate_left 1
      · intro w hSw; (try dsimp only at hSw); obtain ⟨s0, s1, s2⟩ := hSw; go_simp; try with_reducible rfl
      try simp only [Act.put, List.getElem_toArray, List.getElem_cons_zero, List.getElem_cons_succ, List.setIfInBounds_toArray, List.set_cons_zero, List.set_cons_succ]
      refine wpAnyH_take (i := 2) (v := ?_) rfl (by kernel_rfl) (by kernel_rfl) (by kernel_rfl) (fun _ _ _ h => h) (Or.inl ⟨by rfl, ?_⟩) (by assumption) ?_
      rotate_left 1
      · intro w _; go_simp; try with_reducible rfl
      try simp only [Act.put, List.getElem_toArray, List.getElem_cons_zero, List.getElem_cons_succ, List.setIfInBounds_toArray, List.set_cons_zero, List.set_cons_succ]
      refine wpAnyH_take (i := 3) (v := ?_) rfl (by kernel_rfl) (by kernel_rfl) (by kernel_rfl) (fun _ _ _ h => h) (Or.inl ⟨by rfl, ?_⟩) (by assumption) ?_
      rotate_left 1
      · intro w _; go_simp; try with_reducible rfl
      try simp only [Act.put, List.getElem_toArray, List.getElem_cons_zero, List.getElem_cons_succ, List.setIfInBounds_toArray, List.set_cons_zero, List.set_cons_succ]
      refine wpAnyH_take (i := 4) (v := ?_) rfl (by kernel_rfl) (by kernel_rfl) (by kernel_rfl) (fun _ _ _ h => h) (Or.inl ⟨by rfl, ?_⟩) (by assumption) ?_
      rotate_left 1
      · intro w _; go_simp; try with_reducible rfl
      try simp only [Act.put, List.getElem_toArray, List.getElem_cons_zero, List.getElem_cons_succ, List.setIfInBounds_toArray, List.set_cons_zero, List.set_cons_succ]
      refine wpAnyH_take (i := 5) (v := ?_) rfl (by kernel_rfl) (by kernel_rfl) (by kernel_rfl) (fun _ _ _ h => h) (Or.inl ⟨by rfl, ?_⟩) (by assumption) ?_
      rotate_left 1
      · intro w hSw; (try dsimp only at hSw); obtain ⟨s0, s1, s2⟩ := hSw; go_simp; try with_reducible rfl
      try simp only [Act.put, List.getElem_toArray, List.getElem_cons_zero, List.getElem_cons_succ, List.setIfInBounds_toArray, List.set_cons_zero, List.set_cons_succ]
      refine wpAnyH_take (i := 6) (v := ?_) rfl (by kernel_rfl) (by kernel_rfl) (by kernel_rfl) (fun _ _ _ h => h) (Or.inl ⟨by rfl, ?_⟩) (by assumption) ?_
      rotate_left 1
      · intro w _; go_simp; try with_reducible rfl
      try simp only [Act.put, List.getElem_toArray, List.getElem_cons_zero, List.getElem_cons_succ, List.setIfInBounds_toArray, List.set_cons_zero, List.set_cons_succ]
      refine wpAnyH_take (i := 7) (v := ?_) rfl (by kernel_rfl) (by kernel_rfl) (by kernel_rfl) (fun _ _ _ h => h) (Or.inl ⟨by rfl, ?_⟩) (by assumption) ?_
      rotate_left 1
      · intro w _; go_simp; try with_reducible rfl
      try simp only [Act.put, List.getElem_toArray, List.getElem_cons_zero, List.getElem_cons_succ, List.setIfInBounds_toArray, List.set_cons_zero, List.set_cons_succ]
      refine wpAnyH_take (i := 8) (v := ?_) rfl (by kernel_rfl) (by kernel_rfl) (by kernel_rfl) (fun _ _ _ h => h) (Or.inl ⟨by rfl, ?_⟩) (by assumption) ?_
      rotate_left 1
      · intro w _; go_simp; try with_reducible rfl
      try simp only [Act.put, List.getElem_toArray, List.getElem_cons_zero, List.getElem_cons_succ, List.setIfInBounds_toArray, List.set_cons_zero, List.set_cons_succ]
      refine wpAnyH_take (i := 9) (v := ?_) rfl (by kernel_rfl) (by kernel_rfl) (by kernel_rfl) (fun _ _ _ h => h) (Or.inl ⟨by rfl, ?_⟩) (by assumption) ?_
      rotate_left 1
      · intro w hSw; (try dsimp only at hSw); obtain ⟨s0, s1, s2⟩ := hSw; go_simp; try with_reducible rfl
      try simp only [Act.put, List.getElem_toArray, List.getElem_cons_zero, List.getElem_cons_succ, List.setIfInBounds_toArray, List.set_cons_zero, List.set_cons_succ]
      refine wpAnyH_take (i := 10) (v := ?_) rfl (by kernel_rfl) (by kernel_rfl) (by kernel_rfl) (fun _ _ _ h => h) (Or.inl ⟨by rfl, ?_⟩) (by assumption) ?_
      rotate_left 1
      · intro w _; go_simp; try with_reducible rfl
      try simp only [Act.put, List.getElem_toArray, List.getElem_cons_zero, List.getElem_cons_succ, List.setIfInBounds_toArray, List.set_cons_zero, List.set_cons_succ]
      refine wpAnyH_done (by kernel_rfl) ?_ _
      clear hHeld
      have SF := Lib.hid (SQ.out.drewN 1)
      have hvv : (!v == v) = false := by cases v <;> rfl
      go_wp2_with fail
      go_roundw
      case rel => exact ⟨i + 1, by omega, by go_num, SF⟩
      case measure => simp [intOf]; omega
    · obtain rfl : n = i := by omega
      by_cases hk0 : k < 0
      · go_wp2_with fail
        go_ret
        exact ⟨rfl, SQ.out.1⟩
      by_cases hkn : (n : Int) ≤ k
      · go_wp2_with fail
        go_ret
        exact ⟨rfl, SQ.out.1⟩
      obtain ⟨k, rfl⟩ : ∃ k' : Nat, k = k' := ⟨k.toNat, by omega⟩
      have hks : k < n := by omega
      have hkd : k < d.s.length := by rw [HN.out]; exact hks
      obtain ⟨v, hv⟩ : ∃ v, pu13 d k = v := ⟨_, rfl⟩
      obtain ⟨g5, hg5, l0⟩ := SQ.out.2.1 k v (by rw [← HT5.out, List.getElem?_map, List.getElem?_range hks, ← hv]; rfl)
      subst hg5
      cases v with
      | true =>
        go_wp2_with fail
        go_ret
        exact ⟨rfl, SQ.out.1⟩
      | false =>
        obtain ⟨gm, kk, z, hA, hk, hg1, hg2, hz, hzj, hat, hok, hoz, hfr⟩ := rows13 SQ.out.2.2.2.2.1 SQ.out.2.2.2.1 (j := k) (by rw [HEL.out]; exact hks)
        obtain ⟨q1, q2⟩ := hq13 SQ.out.2.2.2.2.1 SQ.out.2.2.2.1 hA hk hz hat hok hoz true
        have hes : e.s.set k ({ z.m with q := true }, z.k) = (sy13 d fun j => pu13 d j || j == k).s := by
          rw [← HE.out]
          refine sy13_set ?_
          rw [HE.out, List.getElem?_eq_getElem (by rw [HEL.out]; exact hks), ← hzj]
        have hee : ({ e with s := e.s.set k ({ z.m with q := true }, z.k) } : Md) = sy13 d fun j => pu13 d j || j == k := by
          rw [hes, ← HE.out]
          rfl
        rw [hee] at q1
        have hdb := SQ.out.2.2.1.other (p := ⟨gm, k * 8 + 3, none⟩) (show gm ≠ V by omega) (.bool true)
        have hbw := SQ.out.1.setCell (p := ⟨gm, k * 8 + 3, none⟩) (show w.heap.size ≤ gm by have := HW3.out; omega) (.bool true)
        have HCK := Lib.hid (check13_v _ _ _ q1 (by rw [sy13_len]; have := HBS.out; omega) (sy13_bl HBL.out))
        rw [ch13_one HBA.out hkd hv, dv, sy13_len, HN.out] at HCK
        have x3 := hat.2.2.2.1
        dsimp only at x3
        have xf := hfr (k * 8 + 3)
        obtain ⟨-, -, ⟨v0, v1, v2, v3, v4⟩, -⟩ := SQ.out
        rw [HEL.out, hA] at v3
        obtain ⟨u0, u1, u2, u3, u4⟩ := hdb
        rw [HEL.out, hA] at u3
        have HU := Lib.hid (And.intro u0 (And.intro u1 (And.intro u2 (And.intro u3 u4))))
        have HBW := Lib.hid hbw
        clear hk hg1 hg2 hz hzj hat hok hoz hfr q1 q2 hes hee hbw u0 u1 u2 u3 u4 v0 v1 v2 v4
        go_upto_region 19 with (fail)
        have HCK2 : Hid (Calls Try.prog 17 #[.agg #[.slice t.G e.g.length t.gc, .slice t.P e.p.length t.pc, .slice (some ⟨gm, 0, none⟩) n t.c, .int .i64 e.i]] (wq.setCell ⟨gm, k * 8 + 3, none⟩ (.bool true)) fun r w' => r = .returned (.int .i64 130) ∧ Below (wq.setCell ⟨gm, k * 8 + 3, none⟩ (.bool true)).heap.size (wq.setCell ⟨gm, k * 8 + 3, none⟩ (.bool true)) w') := Lib.hid (by
          have h := HCK.out
          dsimp only at h
          rw [hA] at h
          rw [← HE.out]
          exact h)
        have HWS : Hid (w.heap.size ≤ (wq.setCell ⟨gm, k * 8 + 3, none⟩ (.bool true)).heap.size) := Lib.hid HBW.out.size
        obtain ⟨u0, u1, u2, u3, u4⟩ := HU.out
        generalize wq.setCell ⟨gm, k * 8 + 3, none⟩ (.bool true) = wy at HCK2 HBW HWS u0 u1 u2 u3 u4 ⊢
        clear HCK HU x3 xf v3 l0
        go_wp2_with fail
        refine HCK2.out.mono ?_
        rintro r wf ⟨rfl, hb⟩
        have HBF := Lib.hid (HBW.out.trans (hb.mono HWS.out))
        clear hb HCK2 u0 u1 u2 u3 u4
        go_wp2_with fail
        go_ret
        exact ⟨rfl, HBF.out⟩
end Go.Proofs.Ytimjnmkfbdijeaa
