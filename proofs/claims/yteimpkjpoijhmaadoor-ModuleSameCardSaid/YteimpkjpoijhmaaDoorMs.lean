/-
  Layer 8: what the reference's Same of modules answers.
-/
import Derived.Test.YteimpkjpoijhmaaDoorMg
namespace Go.Proofs.YteimpkjpoijhmaaDoor
open Go.RowKit
set_option maxRecDepth 100000
set_option linter.unusedSimpArgs false
set_option linter.unusedVariables false

theorem qsS_at {s t : List (Mh × List Ins)} {j : Nat} (h : j < s.length) (h2 : j < t.length) : qsS (s.drop j) (t.drop j) = ((mS (s[j]).1 (t[j]).1 && decide ((s[j]).2 = (t[j]).2)) && qsS (s.drop (j + 1)) (t.drop (j + 1))) := by
  rw [List.drop_eq_getElem_cons h, List.drop_eq_getElem_cons h2, qsS]
theorem qsS_len {s t : List (Mh × List Ins)} (h : s.length ≠ t.length) : qsS s t = false := by
  cases hq : qsS s t with
  | false => rfl
  | true => exact absurd (by rw [qsS_iff.1 hq]) h
set_option maxHeartbeats 4000000 in
theorem r8same_v (y t : Ma) (d e : Md) (v : Bool) (w : World) (hy : Hq w y d) (ht : Hq w t e) (hv : qS d e = v) :
    Calls Tryd.prog 14 #[dv y d, dv t e] w fun r w' => r = .returned (.bool v) ∧ Below w.heap.size w w' := by
  have hls := hy.2.2.1.len
  have hls2 := ht.2.2.1.len
  have hzl := hy.zlen
  have hzl2 := ht.zlen
  rw [hzl] at hls
  rw [hzl2] at hls2
  have HZL := Lib.hid (And.intro hzl hzl2)
  have HZA := Lib.hid (fun (i : Nat) (h1 : i < y.Z.length) (h2 : i < d.s.length) => hy.zat h1 h2)
  have HZB := Lib.hid (fun (i : Nat) (h1 : i < t.Z.length) (h2 : i < e.s.length) => ht.zat h1 h2)
  obtain ⟨G, gc, P, pc, A, c, Z⟩ := y
  obtain ⟨G2, gc2, P2, pc2, A2, c2, Z2⟩ := t
  dsimp only at HZL HZA HZB hzl hzl2
  have S0 := Lib.hid (((((Sx.start w).add (fQm ⟨G, gc, P, pc, A, c, Z⟩ d) hy).add (fQm ⟨G2, gc2, P2, pc2, A2, c2, Z2⟩ e) ht).mkD ⟨G, gc, P, pc, A, c, Z⟩ d).mkD ⟨G2, gc2, P2, pc2, A2, c2, Z2⟩ e)
  rw [size1] at S0
  have HV := Lib.hid hv
  clear hy ht hv hzl hzl2
  obtain ⟨-, ⟨y0, y1, y2, y3, y4⟩, ⟨x0, x1, x2, x3, x4⟩, -⟩ := S0.out
  dsimp only at x1 x2 x3 y1 y2 y3
  by_cases hi : d.i = e.i
  · have E0 : (d.i != e.i) = false := by simpa using hi
    have HI := Lib.hid hi
    clear hi
    go_enter Tryd.func14, Tryd.ntmps14
    go_wp2_with fail
    refine (r3same_any G G2 gc gc2 _ _ d.g e.g _ S0.out.2.2.2.2.1.1 S0.out.2.2.2.1.1 rfl rfl).mono ?_
    rintro r1 w1 ⟨rfl, hb1⟩
    have S1 := Lib.hid (S0.out.call hb1)
    clear hb1 S0
    clear y0 y1 y2 y3 y4 x0 x1 x2 x3 x4
    obtain ⟨-, ⟨y0, y1, y2, y3, y4⟩, ⟨x0, x1, x2, x3, x4⟩, -⟩ := S1.out
    dsimp only at x1 x2 x3 y1 y2 y3
    by_cases hg : d.g = e.g
    · rw [decide_eq_true hg]
      have HG := Lib.hid hg
      clear hg
      go_wp2_with fail
      refine (r3same_any P P2 pc pc2 _ _ d.p e.p _ S1.out.2.2.2.2.1.2.1 S1.out.2.2.2.1.2.1 rfl rfl).mono ?_
      rintro r1 w2 ⟨rfl, hb2⟩
      have S2 := Lib.hid (S1.out.call hb2)
      clear hb2 S1
      clear y0 y1 y2 y3 y4 x0 x1 x2 x3 x4
      obtain ⟨-, ⟨y0, y1, y2, y3, y4⟩, ⟨x0, x1, x2, x3, x4⟩, -⟩ := S2.out
      dsimp only at x1 x2 x3 y1 y2 y3
      by_cases hp : d.p = e.p
      · rw [decide_eq_true hp]
        have HP := Lib.hid hp
        clear hp
        by_cases hn : d.s.length = e.s.length
        · have HNL := Lib.hid hn
          have E1 : ((d.s.length : Int) != (e.s.length : Int)) = false := by simp [hn]
          have HQ : Hid (qsS d.s e.s = v) := by
            rw [Hid, ← HV.out, qS, decide_eq_true HG.out, decide_eq_true HP.out, HI.out]
            simp
          clear hn HV
          go_wp2_with fail
          clear E1
          clear y0 y1 y2 y3 y4 x0 x1 x2 x3 x4
          go_loopw [5] (fun i wr => ∃ j : Nat, j ≤ d.s.length ∧ i = .int .i64 j ∧ Hid (qsS d.s e.s = qsS (d.s.drop j) (e.s.drop j)) ∧ Hid (Sx w wr [fD (w.heap.size + 1) ⟨G2, gc2, P2, pc2, A2, c2, Z2⟩ e, fD w.heap.size ⟨G, gc, P, pc, A, c, Z⟩ d, fQm ⟨G2, gc2, P2, pc2, A2, c2, Z2⟩ e, fQm ⟨G, gc, P, pc, A, c, Z⟩ d])) (fun i _ => d.s.length - (intOf i).toNat)
          case atStart => exact ⟨0, by omega, rfl, by simp [Hid], S2⟩
          case round =>
            obtain ⟨j, hj, rfl, HT, S1⟩ := hrel
            clear S2
            obtain ⟨-, ⟨y0, y1, y2, y3, y4⟩, ⟨x0, x1, x2, x3, x4⟩, -⟩ := S1.out
            dsimp only at x1 x2 x3 y1 y2 y3
            by_cases h1 : j < d.s.length
            · have h2 : j < e.s.length := by rw [← HNL.out]; exact h1
              have h1z : j < Z.length := by rw [HZL.out.1]; exact h1
              have h2z : j < Z2.length := by rw [HZL.out.2]; exact h2
              have hR : Rm wr A c Z := S1.out.2.2.2.2.1.2.2.1
              obtain ⟨ad, rfl, -, -⟩ := hR.at_ h1z
              have hR2 : Rm wr A2 c2 Z2 := S1.out.2.2.2.1.2.2.1
              obtain ⟨ad2, rfl, -, -⟩ := hR2.at_ h2z
              have HE1 := Lib.hid (Rm.each (w := wr) (ad := ad) (c := c) h1z)
              have HE2 := Lib.hid (Rm.each (w := wr) (ad := ad2) (c := c2) h2z)
              have hAT := qsS_at h1 h2
              rw [HZA.out j h1z h1, HZB.out j h2z h2] at hAT
              have HK : Hid ((Z[j]).k.length = (Z[j]).x.k ∧ (Z2[j]).k.length = (Z2[j]).x.k) := ⟨(HE1.out _ hR).2.2.2, (HE2.out _ hR2).2.2.2⟩
              clear hR hR2
              generalize Z[j] = z at *
              generalize Z2[j] = z2 at *
              obtain ⟨xx, m, k⟩ := z
              obtain ⟨xx2, m2, k2⟩ := z2
              dsimp only at hAT HK
              have HNO : Hid ((mS m m2 && decide (k = k2)) = false → v = false) := fun h => by rw [← HQ.out, HT.out, hAT, h, Bool.false_and]
              have HYES : Hid ((mS m m2 && decide (k = k2)) = true → Hid (qsS d.s e.s = qsS (d.s.drop (j + 1)) (e.s.drop (j + 1)))) := fun h => by rw [Hid, HT.out, hAT, h, Bool.true_and]
              obtain ⟨hs, hhs⟩ : ∃ b, mS m m2 = b := ⟨_, rfl⟩
              have HM := Lib.hid hhs
              clear hAT hhs HT
              go_upto_region 6 with (fail)
              clear y0 y1 y2 y3 y4 x0 x1 x2 x3 x4
              have S2 := S1
              clear S1
              cases hs with
              | false =>
                refine wp_region_held_drew (S := fun w' => Hid (Sx w w' [fD (w.heap.size + 1) ⟨G2, gc2, P2, pc2, (some ad2), c2, Z2⟩ e, fD w.heap.size ⟨G, gc, P, pc, (some ad), c, Z⟩ d, fQm ⟨G2, gc2, P2, pc2, (some ad2), c2, Z2⟩ e, fQm ⟨G, gc, P, pc, (some ad), c, Z⟩ d])) (by kernel_rfl) (Hsx.drew S2) (fun hHeld => ?_)
                refine wpAnyH_take (i := 0) (v := ?_) rfl (by kernel_rfl) (by kernel_rfl) (by kernel_rfl) (fun _ _ _ h => h) (Or.inl ⟨by rfl, ?_⟩) (by assumption) ?_
                rotate_left 1
                · intro w _; go_simp; try with_reducible rfl
                try simp only [Act.put, List.getElem_toArray, List.getElem_cons_zero, List.getElem_cons_succ, List.setIfInBounds_toArray, List.set_cons_zero, List.set_cons_succ]
                refine wpAnyH_take (i := 1) (v := ?_) rfl (by kernel_rfl) (by kernel_rfl) (by kernel_rfl) (fun _ _ _ h => h) (Or.inl ⟨by rfl, ?_⟩) (by assumption) ?_
                rotate_left 1
                · intro w hSw; (try dsimp only at hSw); obtain ⟨-, ⟨y0, y1, y2, y3, y4⟩, ⟨x0, x1, x2, x3, x4⟩, -⟩ := hSw.out; dsimp only at x1 x2 x3 y1 y2 y3; go_simp; try with_reducible rfl
                try simp only [Act.put, List.getElem_toArray, List.getElem_cons_zero, List.getElem_cons_succ, List.setIfInBounds_toArray, List.set_cons_zero, List.set_cons_succ]
                refine wpAnyH_take (i := 2) (v := ?_) rfl (by kernel_rfl) (by kernel_rfl) (by kernel_rfl) (fun _ _ _ h => h) (Or.inl ⟨by rfl, ?_⟩) (by assumption) ?_
                rotate_left 1
                · intro w _; go_simp; try with_reducible rfl
                try simp only [Act.put, List.getElem_toArray, List.getElem_cons_zero, List.getElem_cons_succ, List.setIfInBounds_toArray, List.set_cons_zero, List.set_cons_succ]
                refine wpAnyH_take (i := 3) (v := ?_) rfl (by kernel_rfl) (by kernel_rfl) (by kernel_rfl) (fun _ _ _ h => h) (Or.inl ⟨by rfl, ?_⟩) (by assumption) ?_
                rotate_left 1
                · intro w _; go_simp; try with_reducible rfl
                try simp only [Act.put, List.getElem_toArray, List.getElem_cons_zero, List.getElem_cons_succ, List.setIfInBounds_toArray, List.set_cons_zero, List.set_cons_succ]
                refine wpAnyH_take (i := 4) (v := ?_) rfl (by kernel_rfl) (by kernel_rfl) (by kernel_rfl) (fun _ _ _ h => h) (Or.inl ⟨by rfl, ?_⟩) (by assumption) ?_
                rotate_left 1
                · intro w hSw; (try dsimp only at hSw); obtain ⟨a1, a2, a3, a4, a5, a6, a7, a8⟩ := (HE1.out w hSw.out.2.2.2.2.1.2.2.1).1; dsimp only at a1 a2 a3 a4 a5 a6 a7 a8; go_simp; try with_reducible rfl
                try simp only [Act.put, List.getElem_toArray, List.getElem_cons_zero, List.getElem_cons_succ, List.setIfInBounds_toArray, List.set_cons_zero, List.set_cons_succ]
                refine wpAnyH_take (i := 5) (v := ?_) rfl (by kernel_rfl) (by kernel_rfl) (by kernel_rfl) (fun _ _ _ h => h) (Or.inl ⟨by rfl, ?_⟩) (by assumption) ?_
                rotate_left 1
                · intro w _; go_simp; try with_reducible rfl
                try simp only [Act.put, List.getElem_toArray, List.getElem_cons_zero, List.getElem_cons_succ, List.setIfInBounds_toArray, List.set_cons_zero, List.set_cons_succ]
                refine wpAnyH_take (i := 6) (v := ?_) rfl (by kernel_rfl) (by kernel_rfl) (by kernel_rfl) (fun _ _ _ h => h) (Or.inl ⟨by rfl, ?_⟩) (by assumption) ?_
                rotate_left 1
                · intro w hSw; (try dsimp only at hSw); obtain ⟨-, ⟨y0, y1, y2, y3, y4⟩, ⟨x0, x1, x2, x3, x4⟩, -⟩ := hSw.out; dsimp only at x1 x2 x3 y1 y2 y3; go_simp; try with_reducible rfl
                try simp only [Act.put, List.getElem_toArray, List.getElem_cons_zero, List.getElem_cons_succ, List.setIfInBounds_toArray, List.set_cons_zero, List.set_cons_succ]
                refine wpAnyH_take (i := 7) (v := ?_) rfl (by kernel_rfl) (by kernel_rfl) (by kernel_rfl) (fun _ _ _ h => h) (Or.inl ⟨by rfl, ?_⟩) (by assumption) ?_
                rotate_left 1
                · intro w _; go_simp; try with_reducible rfl
                try simp only [Act.put, List.getElem_toArray, List.getElem_cons_zero, List.getElem_cons_succ, List.setIfInBounds_toArray, List.set_cons_zero, List.set_cons_succ]
                refine wpAnyH_take (i := 8) (v := ?_) rfl (by kernel_rfl) (by kernel_rfl) (by kernel_rfl) (fun _ _ _ h => h) (Or.inl ⟨by rfl, ?_⟩) (by assumption) ?_
                rotate_left 1
                · intro w _; go_simp; try with_reducible rfl
                try simp only [Act.put, List.getElem_toArray, List.getElem_cons_zero, List.getElem_cons_succ, List.setIfInBounds_toArray, List.set_cons_zero, List.set_cons_succ]
                refine wpAnyH_take (i := 9) (v := ?_) rfl (by kernel_rfl) (by kernel_rfl) (by kernel_rfl) (fun _ _ _ h => h) (Or.inl ⟨by rfl, ?_⟩) (by assumption) ?_
                rotate_left 1
                · intro w hSw; (try dsimp only at hSw); obtain ⟨a1, a2, a3, a4, a5, a6, a7, a8⟩ := (HE2.out w hSw.out.2.2.2.1.2.2.1).1; dsimp only at a1 a2 a3 a4 a5 a6 a7 a8; go_simp; try with_reducible rfl
                try simp only [Act.put, List.getElem_toArray, List.getElem_cons_zero, List.getElem_cons_succ, List.setIfInBounds_toArray, List.set_cons_zero, List.set_cons_succ]
                refine wpAnyH_ready (rs := [10]) (by kernel_rfl) (by simp) ?_
                refine AllReadyH.cons rfl (fun K hK => ?_) AllReadyH.nil
                go_simp
                refine (r7sam_v xx xx2 m m2 _ _ (HE1.out _ hHeld.out.2.2.2.2.1.2.2.1).2.1 (HE2.out _ hHeld.out.2.2.2.1.2.2.1).2.1 HM.out).mono ?_
                rintro r1 wb ⟨rfl, hb⟩
                go_wp2_with fail
                refine hK.out _ _ (Hsx.call hb hHeld) (fun hHeld => ?_)
                clear hK K
                try simp only [Act.put, List.getElem_toArray, List.getElem_cons_zero, List.getElem_cons_succ, List.setIfInBounds_toArray, List.set_cons_zero, List.set_cons_succ]
                refine wpAnyH_take (i := 11) (v := ?_) rfl (by kernel_rfl) (by kernel_rfl) (by kernel_rfl) (fun _ _ _ h => h) (Or.inl ⟨by rfl, ?_⟩) (by assumption) ?_
                rotate_left 1
                · intro w _; go_simp; try with_reducible rfl
                try simp only [Act.put, List.getElem_toArray, List.getElem_cons_zero, List.getElem_cons_succ, List.setIfInBounds_toArray, List.set_cons_zero, List.set_cons_succ]
                refine wpAnyH_take (i := 12) (v := ?_) rfl (by kernel_rfl) (by kernel_rfl) (by kernel_rfl) (fun _ _ _ h => h) (Or.inl ⟨by rfl, ?_⟩) (by assumption) ?_
                rotate_left 1
                · intro w _; go_simp; try with_reducible rfl
                try simp only [Act.put, List.getElem_toArray, List.getElem_cons_zero, List.getElem_cons_succ, List.setIfInBounds_toArray, List.set_cons_zero, List.set_cons_succ]
                refine wpAnyH_take (i := 13) (v := undef) rfl (by kernel_rfl) (by kernel_rfl) (by kernel_rfl) (fun _ _ _ h => h) (Or.inr ⟨by rfl, rfl⟩) (by assumption) ?_
                try simp only [Act.put, List.getElem_toArray, List.getElem_cons_zero, List.getElem_cons_succ, List.setIfInBounds_toArray, List.set_cons_zero, List.set_cons_succ]
                refine wpAnyH_take (i := 14) (v := undef) rfl (by kernel_rfl) (by kernel_rfl) (by kernel_rfl) (fun _ _ _ h => h) (Or.inr ⟨by rfl, rfl⟩) (by assumption) ?_
                try simp only [Act.put, List.getElem_toArray, List.getElem_cons_zero, List.getElem_cons_succ, List.setIfInBounds_toArray, List.set_cons_zero, List.set_cons_succ]
                refine wpAnyH_take (i := 15) (v := undef) rfl (by kernel_rfl) (by kernel_rfl) (by kernel_rfl) (fun _ _ _ h => h) (Or.inr ⟨by rfl, rfl⟩) (by assumption) ?_
                try simp only [Act.put, List.getElem_toArray, List.getElem_cons_zero, List.getElem_cons_succ, List.setIfInBounds_toArray, List.set_cons_zero, List.set_cons_succ]
                refine wpAnyH_take (i := 16) (v := undef) rfl (by kernel_rfl) (by kernel_rfl) (by kernel_rfl) (fun _ _ _ h => h) (Or.inr ⟨by rfl, rfl⟩) (by assumption) ?_
                try simp only [Act.put, List.getElem_toArray, List.getElem_cons_zero, List.getElem_cons_succ, List.setIfInBounds_toArray, List.set_cons_zero, List.set_cons_succ]
                refine wpAnyH_take (i := 17) (v := undef) rfl (by kernel_rfl) (by kernel_rfl) (by kernel_rfl) (fun _ _ _ h => h) (Or.inr ⟨by rfl, rfl⟩) (by assumption) ?_
                try simp only [Act.put, List.getElem_toArray, List.getElem_cons_zero, List.getElem_cons_succ, List.setIfInBounds_toArray, List.set_cons_zero, List.set_cons_succ]
                refine wpAnyH_take (i := 18) (v := undef) rfl (by kernel_rfl) (by kernel_rfl) (by kernel_rfl) (fun _ _ _ h => h) (Or.inr ⟨by rfl, rfl⟩) (by assumption) ?_
                try simp only [Act.put, List.getElem_toArray, List.getElem_cons_zero, List.getElem_cons_succ, List.setIfInBounds_toArray, List.set_cons_zero, List.set_cons_succ]
                refine wpAnyH_take (i := 19) (v := undef) rfl (by kernel_rfl) (by kernel_rfl) (by kernel_rfl) (fun _ _ _ h => h) (Or.inr ⟨by rfl, rfl⟩) (by assumption) ?_
                try simp only [Act.put, List.getElem_toArray, List.getElem_cons_zero, List.getElem_cons_succ, List.setIfInBounds_toArray, List.set_cons_zero, List.set_cons_succ]
                refine wpAnyH_take (i := 20) (v := undef) rfl (by kernel_rfl) (by kernel_rfl) (by kernel_rfl) (fun _ _ _ h => h) (Or.inr ⟨by rfl, rfl⟩) (by assumption) ?_
                try simp only [Act.put, List.getElem_toArray, List.getElem_cons_zero, List.getElem_cons_succ, List.setIfInBounds_toArray, List.set_cons_zero, List.set_cons_succ]
                refine wpAnyH_take (i := 21) (v := undef) rfl (by kernel_rfl) (by kernel_rfl) (by kernel_rfl) (fun _ _ _ h => h) (Or.inr ⟨by rfl, rfl⟩) (by assumption) ?_
                try simp only [Act.put, List.getElem_toArray, List.getElem_cons_zero, List.getElem_cons_succ, List.setIfInBounds_toArray, List.set_cons_zero, List.set_cons_succ]
                refine wpAnyH_take (i := 22) (v := undef) rfl (by kernel_rfl) (by kernel_rfl) (by kernel_rfl) (fun _ _ _ h => h) (Or.inr ⟨by rfl, rfl⟩) (by assumption) ?_
                try simp only [Act.put, List.getElem_toArray, List.getElem_cons_zero, List.getElem_cons_succ, List.setIfInBounds_toArray, List.set_cons_zero, List.set_cons_succ]
                refine wpAnyH_take (i := 23) (v := undef) rfl (by kernel_rfl) (by kernel_rfl) (by kernel_rfl) (fun _ _ _ h => h) (Or.inr ⟨by rfl, rfl⟩) (by assumption) ?_
                try simp only [Act.put, List.getElem_toArray, List.getElem_cons_zero, List.getElem_cons_succ, List.setIfInBounds_toArray, List.set_cons_zero, List.set_cons_succ]
                refine wpAnyH_take (i := 24) (v := undef) rfl (by kernel_rfl) (by kernel_rfl) (by kernel_rfl) (fun _ _ _ h => h) (Or.inr ⟨by rfl, rfl⟩) (by assumption) ?_
                try simp only [Act.put, List.getElem_toArray, List.getElem_cons_zero, List.getElem_cons_succ, List.setIfInBounds_toArray, List.set_cons_zero, List.set_cons_succ]
                refine wpAnyH_take (i := 25) (v := undef) rfl (by kernel_rfl) (by kernel_rfl) (by kernel_rfl) (fun _ _ _ h => h) (Or.inr ⟨by rfl, rfl⟩) (by assumption) ?_
                try simp only [Act.put, List.getElem_toArray, List.getElem_cons_zero, List.getElem_cons_succ, List.setIfInBounds_toArray, List.set_cons_zero, List.set_cons_succ]
                refine wpAnyH_take (i := 26) (v := undef) rfl (by kernel_rfl) (by kernel_rfl) (by kernel_rfl) (fun _ _ _ h => h) (Or.inr ⟨by rfl, rfl⟩) (by assumption) ?_
                try simp only [Act.put, List.getElem_toArray, List.getElem_cons_zero, List.getElem_cons_succ, List.setIfInBounds_toArray, List.set_cons_zero, List.set_cons_succ]
                refine wpAnyH_take (i := 27) (v := ?_) rfl (by kernel_rfl) (by kernel_rfl) (by kernel_rfl) (fun _ _ _ h => h) (Or.inl ⟨by rfl, ?_⟩) (by assumption) ?_
                rotate_left 1
                · intro w _; go_simp; try with_reducible rfl
                try simp only [Act.put, List.getElem_toArray, List.getElem_cons_zero, List.getElem_cons_succ, List.setIfInBounds_toArray, List.set_cons_zero, List.set_cons_succ]
                refine wpAnyH_done (by kernel_rfl) ?_ _
                have HN : Hid (v = false) := HNO.out (by rw [HM.out]; rfl)
                have HB := Lib.hid hHeld.out.1
                clear hHeld S2
                go_wp2_with fail
                go_ret
                exact ⟨by rw [HN.out]; rfl, HB.out⟩
              | true =>
                refine wp_region_held_drew (S := fun w' => Hid (Sx w w' [fD (w.heap.size + 1) ⟨G2, gc2, P2, pc2, (some ad2), c2, Z2⟩ e, fD w.heap.size ⟨G, gc, P, pc, (some ad), c, Z⟩ d, fQm ⟨G2, gc2, P2, pc2, (some ad2), c2, Z2⟩ e, fQm ⟨G, gc, P, pc, (some ad), c, Z⟩ d])) (by kernel_rfl) (Hsx.drew S2) (fun hHeld => ?_)
                refine wpAnyH_take (i := 0) (v := ?_) rfl (by kernel_rfl) (by kernel_rfl) (by kernel_rfl) (fun _ _ _ h => h) (Or.inl ⟨by rfl, ?_⟩) (by assumption) ?_
                rotate_left 1
                · intro w _; go_simp; try with_reducible rfl
                try simp only [Act.put, List.getElem_toArray, List.getElem_cons_zero, List.getElem_cons_succ, List.setIfInBounds_toArray, List.set_cons_zero, List.set_cons_succ]
                refine wpAnyH_take (i := 1) (v := ?_) rfl (by kernel_rfl) (by kernel_rfl) (by kernel_rfl) (fun _ _ _ h => h) (Or.inl ⟨by rfl, ?_⟩) (by assumption) ?_
                rotate_left 1
                · intro w hSw; (try dsimp only at hSw); obtain ⟨-, ⟨y0, y1, y2, y3, y4⟩, ⟨x0, x1, x2, x3, x4⟩, -⟩ := hSw.out; dsimp only at x1 x2 x3 y1 y2 y3; go_simp; try with_reducible rfl
                try simp only [Act.put, List.getElem_toArray, List.getElem_cons_zero, List.getElem_cons_succ, List.setIfInBounds_toArray, List.set_cons_zero, List.set_cons_succ]
                refine wpAnyH_take (i := 2) (v := ?_) rfl (by kernel_rfl) (by kernel_rfl) (by kernel_rfl) (fun _ _ _ h => h) (Or.inl ⟨by rfl, ?_⟩) (by assumption) ?_
                rotate_left 1
                · intro w _; go_simp; try with_reducible rfl
                try simp only [Act.put, List.getElem_toArray, List.getElem_cons_zero, List.getElem_cons_succ, List.setIfInBounds_toArray, List.set_cons_zero, List.set_cons_succ]
                refine wpAnyH_take (i := 3) (v := ?_) rfl (by kernel_rfl) (by kernel_rfl) (by kernel_rfl) (fun _ _ _ h => h) (Or.inl ⟨by rfl, ?_⟩) (by assumption) ?_
                rotate_left 1
                · intro w _; go_simp; try with_reducible rfl
                try simp only [Act.put, List.getElem_toArray, List.getElem_cons_zero, List.getElem_cons_succ, List.setIfInBounds_toArray, List.set_cons_zero, List.set_cons_succ]
                refine wpAnyH_take (i := 4) (v := ?_) rfl (by kernel_rfl) (by kernel_rfl) (by kernel_rfl) (fun _ _ _ h => h) (Or.inl ⟨by rfl, ?_⟩) (by assumption) ?_
                rotate_left 1
                · intro w hSw; (try dsimp only at hSw); obtain ⟨a1, a2, a3, a4, a5, a6, a7, a8⟩ := (HE1.out w hSw.out.2.2.2.2.1.2.2.1).1; dsimp only at a1 a2 a3 a4 a5 a6 a7 a8; go_simp; try with_reducible rfl
                try simp only [Act.put, List.getElem_toArray, List.getElem_cons_zero, List.getElem_cons_succ, List.setIfInBounds_toArray, List.set_cons_zero, List.set_cons_succ]
                refine wpAnyH_take (i := 5) (v := ?_) rfl (by kernel_rfl) (by kernel_rfl) (by kernel_rfl) (fun _ _ _ h => h) (Or.inl ⟨by rfl, ?_⟩) (by assumption) ?_
                rotate_left 1
                · intro w _; go_simp; try with_reducible rfl
                try simp only [Act.put, List.getElem_toArray, List.getElem_cons_zero, List.getElem_cons_succ, List.setIfInBounds_toArray, List.set_cons_zero, List.set_cons_succ]
                refine wpAnyH_take (i := 6) (v := ?_) rfl (by kernel_rfl) (by kernel_rfl) (by kernel_rfl) (fun _ _ _ h => h) (Or.inl ⟨by rfl, ?_⟩) (by assumption) ?_
                rotate_left 1
                · intro w hSw; (try dsimp only at hSw); obtain ⟨-, ⟨y0, y1, y2, y3, y4⟩, ⟨x0, x1, x2, x3, x4⟩, -⟩ := hSw.out; dsimp only at x1 x2 x3 y1 y2 y3; go_simp; try with_reducible rfl
                try simp only [Act.put, List.getElem_toArray, List.getElem_cons_zero, List.getElem_cons_succ, List.setIfInBounds_toArray, List.set_cons_zero, List.set_cons_succ]
                refine wpAnyH_take (i := 7) (v := ?_) rfl (by kernel_rfl) (by kernel_rfl) (by kernel_rfl) (fun _ _ _ h => h) (Or.inl ⟨by rfl, ?_⟩) (by assumption) ?_
                rotate_left 1
                · intro w _; go_simp; try with_reducible rfl
                try simp only [Act.put, List.getElem_toArray, List.getElem_cons_zero, List.getElem_cons_succ, List.setIfInBounds_toArray, List.set_cons_zero, List.set_cons_succ]
                refine wpAnyH_take (i := 8) (v := ?_) rfl (by kernel_rfl) (by kernel_rfl) (by kernel_rfl) (fun _ _ _ h => h) (Or.inl ⟨by rfl, ?_⟩) (by assumption) ?_
                rotate_left 1
                · intro w _; go_simp; try with_reducible rfl
                try simp only [Act.put, List.getElem_toArray, List.getElem_cons_zero, List.getElem_cons_succ, List.setIfInBounds_toArray, List.set_cons_zero, List.set_cons_succ]
                refine wpAnyH_take (i := 9) (v := ?_) rfl (by kernel_rfl) (by kernel_rfl) (by kernel_rfl) (fun _ _ _ h => h) (Or.inl ⟨by rfl, ?_⟩) (by assumption) ?_
                rotate_left 1
                · intro w hSw; (try dsimp only at hSw); obtain ⟨a1, a2, a3, a4, a5, a6, a7, a8⟩ := (HE2.out w hSw.out.2.2.2.1.2.2.1).1; dsimp only at a1 a2 a3 a4 a5 a6 a7 a8; go_simp; try with_reducible rfl
                try simp only [Act.put, List.getElem_toArray, List.getElem_cons_zero, List.getElem_cons_succ, List.setIfInBounds_toArray, List.set_cons_zero, List.set_cons_succ]
                refine wpAnyH_ready (rs := [10]) (by kernel_rfl) (by simp) ?_
                refine AllReadyH.cons rfl (fun K hK => ?_) AllReadyH.nil
                go_simp
                refine (r7sam_v xx xx2 m m2 _ _ (HE1.out _ hHeld.out.2.2.2.2.1.2.2.1).2.1 (HE2.out _ hHeld.out.2.2.2.1.2.2.1).2.1 HM.out).mono ?_
                rintro r1 wb ⟨rfl, hb⟩
                go_wp2_with fail
                refine hK.out _ _ (Hsx.call hb hHeld) (fun hHeld => ?_)
                clear hK K
                try simp only [Act.put, List.getElem_toArray, List.getElem_cons_zero, List.getElem_cons_succ, List.setIfInBounds_toArray, List.set_cons_zero, List.set_cons_succ]
                refine wpAnyH_take (i := 11) (v := ?_) rfl (by kernel_rfl) (by kernel_rfl) (by kernel_rfl) (fun _ _ _ h => h) (Or.inl ⟨by rfl, ?_⟩) (by assumption) ?_
                rotate_left 1
                · intro w _; go_simp; try with_reducible rfl
                try simp only [Act.put, List.getElem_toArray, List.getElem_cons_zero, List.getElem_cons_succ, List.setIfInBounds_toArray, List.set_cons_zero, List.set_cons_succ]
                refine wpAnyH_take (i := 12) (v := ?_) rfl (by kernel_rfl) (by kernel_rfl) (by kernel_rfl) (fun _ _ _ h => h) (Or.inl ⟨by rfl, ?_⟩) (by assumption) ?_
                rotate_left 1
                · intro w _; go_simp; try with_reducible rfl
                try simp only [Act.put, List.getElem_toArray, List.getElem_cons_zero, List.getElem_cons_succ, List.setIfInBounds_toArray, List.set_cons_zero, List.set_cons_succ]
                refine wpAnyH_take (i := 13) (v := ?_) rfl (by kernel_rfl) (by kernel_rfl) (by kernel_rfl) (fun _ _ _ h => h) (Or.inl ⟨by rfl, ?_⟩) (by assumption) ?_
                rotate_left 1
                · intro w _; go_simp; try with_reducible rfl
                try simp only [Act.put, List.getElem_toArray, List.getElem_cons_zero, List.getElem_cons_succ, List.setIfInBounds_toArray, List.set_cons_zero, List.set_cons_succ]
                refine wpAnyH_take (i := 14) (v := ?_) rfl (by kernel_rfl) (by kernel_rfl) (by kernel_rfl) (fun _ _ _ h => h) (Or.inl ⟨by rfl, ?_⟩) (by assumption) ?_
                rotate_left 1
                · intro w hSw; (try dsimp only at hSw); obtain ⟨-, ⟨y0, y1, y2, y3, y4⟩, ⟨x0, x1, x2, x3, x4⟩, -⟩ := hSw.out; dsimp only at x1 x2 x3 y1 y2 y3; go_simp; try with_reducible rfl
                try simp only [Act.put, List.getElem_toArray, List.getElem_cons_zero, List.getElem_cons_succ, List.setIfInBounds_toArray, List.set_cons_zero, List.set_cons_succ]
                refine wpAnyH_take (i := 15) (v := ?_) rfl (by kernel_rfl) (by kernel_rfl) (by kernel_rfl) (fun _ _ _ h => h) (Or.inl ⟨by rfl, ?_⟩) (by assumption) ?_
                rotate_left 1
                · intro w _; go_simp; try with_reducible rfl
                try simp only [Act.put, List.getElem_toArray, List.getElem_cons_zero, List.getElem_cons_succ, List.setIfInBounds_toArray, List.set_cons_zero, List.set_cons_succ]
                refine wpAnyH_take (i := 16) (v := ?_) rfl (by kernel_rfl) (by kernel_rfl) (by kernel_rfl) (fun _ _ _ h => h) (Or.inl ⟨by rfl, ?_⟩) (by assumption) ?_
                rotate_left 1
                · intro w _; go_simp; try with_reducible rfl
                try simp only [Act.put, List.getElem_toArray, List.getElem_cons_zero, List.getElem_cons_succ, List.setIfInBounds_toArray, List.set_cons_zero, List.set_cons_succ]
                refine wpAnyH_take (i := 17) (v := ?_) rfl (by kernel_rfl) (by kernel_rfl) (by kernel_rfl) (fun _ _ _ h => h) (Or.inl ⟨by rfl, ?_⟩) (by assumption) ?_
                rotate_left 1
                · intro w _; go_simp; try with_reducible rfl
                try simp only [Act.put, List.getElem_toArray, List.getElem_cons_zero, List.getElem_cons_succ, List.setIfInBounds_toArray, List.set_cons_zero, List.set_cons_succ]
                refine wpAnyH_take (i := 18) (v := ?_) rfl (by kernel_rfl) (by kernel_rfl) (by kernel_rfl) (fun _ _ _ h => h) (Or.inl ⟨by rfl, ?_⟩) (by assumption) ?_
                rotate_left 1
                · intro w hSw; (try dsimp only at hSw); obtain ⟨a1, a2, a3, a4, a5, a6, a7, a8⟩ := (HE1.out w hSw.out.2.2.2.2.1.2.2.1).1; dsimp only at a1 a2 a3 a4 a5 a6 a7 a8; go_simp; try with_reducible rfl
                try simp only [Act.put, List.getElem_toArray, List.getElem_cons_zero, List.getElem_cons_succ, List.setIfInBounds_toArray, List.set_cons_zero, List.set_cons_succ]
                refine wpAnyH_take (i := 19) (v := ?_) rfl (by kernel_rfl) (by kernel_rfl) (by kernel_rfl) (fun _ _ _ h => h) (Or.inl ⟨by rfl, ?_⟩) (by assumption) ?_
                rotate_left 1
                · intro w _; go_simp; try with_reducible rfl
                try simp only [Act.put, List.getElem_toArray, List.getElem_cons_zero, List.getElem_cons_succ, List.setIfInBounds_toArray, List.set_cons_zero, List.set_cons_succ]
                refine wpAnyH_take (i := 20) (v := ?_) rfl (by kernel_rfl) (by kernel_rfl) (by kernel_rfl) (fun _ _ _ h => h) (Or.inl ⟨by rfl, ?_⟩) (by assumption) ?_
                rotate_left 1
                · intro w hSw; (try dsimp only at hSw); obtain ⟨-, ⟨y0, y1, y2, y3, y4⟩, ⟨x0, x1, x2, x3, x4⟩, -⟩ := hSw.out; dsimp only at x1 x2 x3 y1 y2 y3; go_simp; try with_reducible rfl
                try simp only [Act.put, List.getElem_toArray, List.getElem_cons_zero, List.getElem_cons_succ, List.setIfInBounds_toArray, List.set_cons_zero, List.set_cons_succ]
                refine wpAnyH_take (i := 21) (v := ?_) rfl (by kernel_rfl) (by kernel_rfl) (by kernel_rfl) (fun _ _ _ h => h) (Or.inl ⟨by rfl, ?_⟩) (by assumption) ?_
                rotate_left 1
                · intro w _; go_simp; try with_reducible rfl
                try simp only [Act.put, List.getElem_toArray, List.getElem_cons_zero, List.getElem_cons_succ, List.setIfInBounds_toArray, List.set_cons_zero, List.set_cons_succ]
                refine wpAnyH_take (i := 22) (v := ?_) rfl (by kernel_rfl) (by kernel_rfl) (by kernel_rfl) (fun _ _ _ h => h) (Or.inl ⟨by rfl, ?_⟩) (by assumption) ?_
                rotate_left 1
                · intro w _; go_simp; try with_reducible rfl
                try simp only [Act.put, List.getElem_toArray, List.getElem_cons_zero, List.getElem_cons_succ, List.setIfInBounds_toArray, List.set_cons_zero, List.set_cons_succ]
                refine wpAnyH_take (i := 23) (v := ?_) rfl (by kernel_rfl) (by kernel_rfl) (by kernel_rfl) (fun _ _ _ h => h) (Or.inl ⟨by rfl, ?_⟩) (by assumption) ?_
                rotate_left 1
                · intro w _; go_simp; try with_reducible rfl
                try simp only [Act.put, List.getElem_toArray, List.getElem_cons_zero, List.getElem_cons_succ, List.setIfInBounds_toArray, List.set_cons_zero, List.set_cons_succ]
                refine wpAnyH_take (i := 24) (v := ?_) rfl (by kernel_rfl) (by kernel_rfl) (by kernel_rfl) (fun _ _ _ h => h) (Or.inl ⟨by rfl, ?_⟩) (by assumption) ?_
                rotate_left 1
                · intro w hSw; (try dsimp only at hSw); obtain ⟨a1, a2, a3, a4, a5, a6, a7, a8⟩ := (HE2.out w hSw.out.2.2.2.1.2.2.1).1; dsimp only at a1 a2 a3 a4 a5 a6 a7 a8; go_simp; try with_reducible rfl
                try simp only [Act.put, List.getElem_toArray, List.getElem_cons_zero, List.getElem_cons_succ, List.setIfInBounds_toArray, List.set_cons_zero, List.set_cons_succ]
                refine wpAnyH_ready (rs := [25]) (by kernel_rfl) (by simp) ?_
                refine AllReadyH.cons rfl (fun K hK => ?_) AllReadyH.nil
                go_simp
                refine (r5same_any xx.D xx2.D xx.e xx2.e xx.k xx2.k k k2 _ (HE1.out _ hHeld.out.2.2.2.2.1.2.2.1).2.2.1 (HE2.out _ hHeld.out.2.2.2.1.2.2.1).2.2.1 HK.out.1 HK.out.2).mono ?_
                rintro r1 wb ⟨rfl, hb⟩
                go_wp2_with fail
                refine hK.out _ _ (Hsx.call hb hHeld) (fun hHeld => ?_)
                clear hK K
                try simp only [Act.put, List.getElem_toArray, List.getElem_cons_zero, List.getElem_cons_succ, List.setIfInBounds_toArray, List.set_cons_zero, List.set_cons_succ]
                refine wpAnyH_take (i := 26) (v := ?_) rfl (by kernel_rfl) (by kernel_rfl) (by kernel_rfl) (fun _ _ _ h => h) (Or.inl ⟨by rfl, ?_⟩) (by assumption) ?_
                rotate_left 1
                · intro w _; go_simp; try with_reducible rfl
                try simp only [Act.put, List.getElem_toArray, List.getElem_cons_zero, List.getElem_cons_succ, List.setIfInBounds_toArray, List.set_cons_zero, List.set_cons_succ]
                refine wpAnyH_take (i := 27) (v := ?_) rfl (by kernel_rfl) (by kernel_rfl) (by kernel_rfl) (fun _ _ _ h => h) (Or.inl ⟨by rfl, ?_⟩) (by assumption) ?_
                rotate_left 1
                · intro w _; go_simp; try with_reducible rfl
                try simp only [Act.put, List.getElem_toArray, List.getElem_cons_zero, List.getElem_cons_succ, List.setIfInBounds_toArray, List.set_cons_zero, List.set_cons_succ]
                refine wpAnyH_done (by kernel_rfl) ?_ _
                have S3 := hHeld
                clear hHeld S2
                by_cases hk : k = k2
                · rw [decide_eq_true hk]
                  have HN := HYES.out (by rw [HM.out, decide_eq_true hk]; rfl)
                  clear hk
                  go_wp2_with fail
                  go_roundw
                  case rel => exact ⟨j + 1, by omega, by go_num, HN, S3⟩
                  case measure => simp [intOf]; omega
                · rw [decide_eq_false hk]
                  have HN : Hid (v = false) := HNO.out (by rw [HM.out, decide_eq_false hk]; rfl)
                  clear hk
                  go_wp2_with fail
                  go_ret
                  exact ⟨by rw [HN.out]; rfl, S3.out.1⟩
            · obtain rfl : j = d.s.length := by omega
              have HN : Hid (v = true) := by
                rw [Hid, ← HQ.out, HT.out, List.drop_of_length_le (Nat.le_refl _), List.drop_of_length_le (by rw [HNL.out]; omega)]
                rfl
              clear HT
              go_wp2_with fail
              go_ret
              exact ⟨by rw [HN.out]; rfl, S1.out.1⟩
        · have E1 : ((d.s.length : Int) != (e.s.length : Int)) = true := by simp; omega
          have HN : Hid (v = false) := by rw [Hid, ← HV.out, qS, qsS_len hn]; simp
          clear hn
          go_wp2_with fail
          go_ret
          exact ⟨by rw [HN.out]; rfl, S2.out.1⟩
      · rw [decide_eq_false hp]
        have HN : Hid (v = false) := by rw [Hid, ← HV.out, qS, decide_eq_false hp]; simp
        clear hp
        go_wp2_with fail
        go_ret
        exact ⟨by rw [HN.out]; rfl, S2.out.1⟩
    · rw [decide_eq_false hg]
      have HN : Hid (v = false) := by rw [Hid, ← HV.out, qS, decide_eq_false hg]; simp
      clear hg
      go_wp2_with fail
      go_ret
      exact ⟨by rw [HN.out]; rfl, S1.out.1⟩
  · have E0 : (d.i != e.i) = true := by simpa using hi
    have HN : Hid (v = false) := by rw [Hid, ← HV.out, qS, show (d.i == e.i) = false by simpa using hi]; rfl
    clear hi
    go_enter Tryd.func14, Tryd.ntmps14
    go_wp2_with fail
    go_ret
    exact ⟨by rw [HN.out]; rfl, S0.out.1⟩
end Go.Proofs.YteimpkjpoijhmaaDoor
