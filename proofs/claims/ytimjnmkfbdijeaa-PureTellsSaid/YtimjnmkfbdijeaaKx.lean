/-
  Layer 13's law PureTells.
-/
import Derived.Test.YtimjnmkfbdijeaaKv
import Derived.Test.YtimjnmkfbdijeaaLje
import Derived.Test.YtimjnmkfbdijeaaFrb
namespace Go.Proofs.Ytimjnmkfbdijeaa
open Go.RowKit
set_option maxRecDepth 100000
set_option linter.unusedSimpArgs false
set_option linter.unusedVariables false

abbrev fRb13 (A : Option Addr) (c : Nat) (W : List Bool) : Fct := ⟨fun w => Rb9 w A c W, fun _ _ h hb => h.keep hb⟩
theorem rb13_of {w : World} {base n c : Nat} {A : Option Addr} {T : List Bool} (h : w.ownsRow base 4 1 (.slice A n c) n (cb13 T)) : Rb9 w A c T := by
  have hl : T.length = n := by
    have := h.1
    simp [cb13] at this
    omega
  rcases h.2 with ⟨hv, h0⟩ | ⟨g, cap, cur, hv, hg, hh, h1, h2, h3, h4⟩
  · injection hv with e1 e2 e3
    subst e1 e3
    exact ⟨by omega, by unfold maxLen; omega, .inl ⟨rfl, rfl⟩⟩
  · injection hv with e1 e2 e3
    subst e1 e3
    refine ⟨by omega, h2, .inr ⟨_, rfl, fun i x hi => ?_⟩⟩
    have hil := (List.getElem?_eq_some_iff.1 hi).1
    rw [add013, h.cellAt i (by omega), cb13, List.getElem?_map, hi]
    rfl
theorem sy13_two (d : Md) : (sy13T d).2 = (pu13T d).2 := by
  unfold sy13T pu13T
  split <;> rfl
theorem pu13_le (d : Md) : (pu13T d).1.length ≤ d.s.length := by
  unfold pu13T
  split <;> simp
theorem qG13 {d : Md} (h : qG d = false) : qG (sy13T d).1 = false := by
  unfold sy13T
  split
  · rfl
  · dsimp only
    simp only [qG, Bool.or_eq_false_iff, List.any_eq_false] at h ⊢
    refine ⟨h.1, h.2.1, by rw [sy13_len]; exact h.2.2.1, fun z hz => ?_⟩
    obtain ⟨k, hk, rfl⟩ := List.mem_map.1 hz
    have hk := List.mem_range.1 hk
    have hz2 := h.2.2.2 d.s[k] (List.getElem_mem hk)
    dsimp only
    rw [hd13, co11, List.getElem?_eq_getElem hk]
    exact hz2
/-- Amid a turn: what is to be compared. -/
structure Tl13 (wr : World) (P N M B lo lb nl c9 c6 : Nat) (tv tw t y : Ma) (E d : Md) (A9 A6 : Option Addr) (L : List Bool) (w : World) : Prop where
  p : Db w P tv E
  n : Db w N tw E
  m : Db w M t d
  b : Db w B y d
  qv : Hq w tv E
  ov : Ow w lo P tv E
  qw : Hq w tw E
  qt : Hq w t d
  qy : Hq w y d
  rl : Rb9 w A6 c6 L
  ro : w.ownsRow lb 4 1 (.slice A9 nl c9) nl (cb13 L)
  bl : Below wr.heap.size wr w
theorem Tl13.keep {wr w w' : World} {P N M B lo lb nl c9 c6 : Nat} {tv tw t y : Ma} {E d : Md} {A9 A6 : Option Addr} {L : List Bool} (h : Tl13 wr P N M B lo lb nl c9 c6 tv tw t y E d A9 A6 L w) (hb : Below w.heap.size w w') : Tl13 wr P N M B lo lb nl c9 c6 tv tw t y E d A9 A6 L w' :=
  ⟨h.p.keep hb, h.n.keep hb, h.m.keep hb, h.b.keep hb, h.qv.keep hb, h.ov.keep hb, h.qw.keep hb, h.qt.keep hb, h.qy.keep hb, h.rl.keep hb, own_below h.ro hb (Nat.le_refl _), h.bl.trans (hb.mono h.bl.size)⟩
set_option maxHeartbeats 8000000 in
theorem tells13_walk (y : Ma) (d : Md) (k : Int) (w : World) (hq : Hq w y d) : Calls Try.prog 3 #[dv y d, .int .i64 k] w fun r w' => r = .returned (.bool true) ∧ Below w.heap.size w w' := by
  have S0 := Lib.hid ((((Sx.start w).add (fQm y d) hq).mkD y d))
  obtain ⟨B, hB⟩ : ∃ B, w.heap.size = B := ⟨_, rfl⟩
  have HBB := Lib.hid hB
  rw [hB] at S0
  clear hq
  go_enter Try.func3, Try.ntmps3
  go_upto_region 1 with (fail)
  change Code.wp _ _ _ _ (w.alloc (dcel y d))
  generalize w.alloc (dcel y d) = w1 at S0 ⊢
  clear hB
  have HGR := Lib.hid (great8_v y d w1 S0.out.2.2.1)
  obtain ⟨-, ⟨d0, d1, d2, d3, d4⟩, -⟩ := S0.out
  go_wp2_with fail
  refine HGR.out.mono ?_
  rintro r w2 ⟨rfl, hb⟩
  have S2 := Lib.hid (S0.out.call hb)
  clear HGR hb S0 d0 d1 d2 d3 d4
  cases hg : qG d with
  | true =>
    go_wp2_with fail
    go_ret
    exact ⟨rfl, S2.out.1⟩
  | false =>
  obtain ⟨hs40, hbl⟩ := qG_bs hg
  have HQG := Lib.hid hg
  have HBL := Lib.hid hbl
  have HBS := Lib.hid hs40
  have HQE := Lib.hid (qG13 hg)
  clear hg hbl hs40
  have HCP := Lib.hid (r8copyw y d w2 S2.out.2.2.1 HQG.out)
  obtain ⟨-, ⟨d0, d1, d2, d3, d4⟩, -⟩ := S2.out
  go_wp2_with fail
  refine HCP.out.mono ?_
  rintro r w3 ⟨t, rfl, hqt, -, hb⟩
  have S3 := Lib.hid (((S2.out.call hb).add (fQm t d) hqt).mkD t d)
  obtain ⟨M, hM⟩ : ∃ M, w3.heap.size = M := ⟨_, rfl⟩
  rw [hM] at S3
  clear HCP hqt hb S2 d0 d1 d2 d3 d4
  go_upto_region 4 with (fail)
  change Code.wp _ _ _ _ (w3.alloc (dcel t d))
  generalize w3.alloc (dcel t d) = w4 at S3 ⊢
  clear hM
  obtain ⟨sb, hsb⟩ : ∃ b, (so13T d k).1 = b := ⟨_, rfl⟩
  obtain ⟨e0, he0⟩ : ∃ b, (so13T d k).2 = b := ⟨_, rfl⟩
  have HSB := Lib.hid hsb
  have HE0 := Lib.hid he0
  have HST := Lib.hid (r13stores_v y d k w4 S3.out.2.2.2.2.1 (by have := HBS.out; omega))
  obtain ⟨-, -, -, ⟨d0, d1, d2, d3, d4⟩, -⟩ := S3.out
  clear hsb he0
  go_wp2_with fail
  refine HST.out.mono ?_
  rintro r w5 ⟨rfl, hb⟩
  rw [HSB.out, HE0.out]
  have S5 := Lib.hid (S3.out.call hb)
  clear HST hb S3 d0 d1 d2 d3 d4
  obtain ⟨L, hL⟩ : ∃ L, (pu13T d).1 = L := ⟨_, rfl⟩
  obtain ⟨f0, hf0⟩ : ∃ b, (pu13T d).2 = b := ⟨_, rfl⟩
  obtain ⟨nl, hnl⟩ : ∃ b, L.length = b := ⟨_, rfl⟩
  have HL := Lib.hid hL
  have HF0 := Lib.hid hf0
  have HNL := Lib.hid hnl
  have HF1 : Hid ((sy13T d).2 = f0) := Lib.hid (by rw [sy13_two]; exact hf0)
  have hnl40 : nl ≤ 40 := by rw [← hnl, ← hL]; exact Nat.le_trans (pu13_le d) HBS.out
  clear hL hf0 hnl
  have HPU := Lib.hid (r13pure_v y d w5 S5.out.2.2.2.2.1 (by have := HBS.out; omega))
  obtain ⟨-, -, -, ⟨d0, d1, d2, d3, d4⟩, -⟩ := S5.out
  go_wp2_with fail
  refine HPU.out.mono ?_
  rintro r w6 ⟨A6, c6, rfl, ho, hb⟩
  rw [HL.out, HNL.out] at ho
  rw [HL.out, HNL.out, HF0.out]
  have S6 := Lib.hid ((S5.out.call hb).add (fRb13 A6 c6 L) (rb13_of ho))
  clear HPU ho hb S5 d0 d1 d2 d3 d4
  obtain ⟨E, hE⟩ : ∃ E, (sy13T d).1 = E := ⟨_, rfl⟩
  rw [hE] at HQE
  have HEE := Lib.hid hE
  clear hE
  have HSY := Lib.hid (r13say_v y d w6 S6.out.2.2.2.2.2.1 HQG.out (by have := HBS.out; omega))
  obtain ⟨-, -, -, -, ⟨d0, d1, d2, d3, d4⟩, -⟩ := S6.out
  go_wp2_with fail
  refine HSY.out.mono ?_
  rintro r w7 ⟨tw, rfl, hqw, -, hb⟩
  rw [HEE.out] at hqw
  rw [HEE.out, HF1.out]
  have S7 := Lib.hid (((S6.out.call hb).add (fQm tw E) hqw).mkD tw E)
  obtain ⟨N, hN⟩ : ∃ N, w7.heap.size = N := ⟨_, rfl⟩
  rw [hN] at S7
  clear HSY hqw hb S6 d0 d1 d2 d3 d4
  go_upto_region 7 with (fail)
  change Code.wp _ _ _ _ (w7.alloc (dcel tw E))
  generalize w7.alloc (dcel tw E) = w8 at S7 ⊢
  clear hN
  go_wp2_with fail
  go_loopw [12] (fun iv wr => ∃ j : Nat, j ≤ 2 ∧ iv = .int .i64 j ∧ Hid (Sx w wr [fD N tw E, fQm tw E, fRb13 A6 c6 L, fD M t d, fQm t d, fD B y d, fQm y d])) (fun iv _ => 2 - (intOf iv).toNat)
  case atStart => exact ⟨0, by omega, rfl, S7⟩
  case round =>
    clear S7
    obtain ⟨j, hj, rfl, SR⟩ := hrel
    rename World => wr
    by_cases h1 : j < 2
    · have HST := Lib.hid (pstores_v t d k wr SR.out.2.2.2.2.2.1 (by have := HBS.out; omega))
      obtain ⟨-, -, -, -, ⟨m0, m1, m2, m3, m4⟩, -⟩ := SR.out
      have T0 : Hid (Sx wr wr [fD N tw E, fQm tw E, fRb13 A6 c6 L, fD M t d, fQm t d, fD B y d, fQm y d]) := Lib.hid ⟨Below.refl _ _, SR.out.2⟩
      go_wp2_with fail
      refine HST.out.mono ?_
      rintro r wa ⟨rfl, hb⟩
      rw [HSB.out, HE0.out]
      have TA := Lib.hid (T0.out.call hb)
      clear HST hb T0 m0 m1 m2 m3 m4
      have HPU := Lib.hid (pure13_v t d wa TA.out.2.2.2.2.2.1 (by have := HBS.out; omega) HBL.out)
      obtain ⟨-, -, -, -, ⟨m0, m1, m2, m3, m4⟩, -⟩ := TA.out
      go_wp2_with fail
      refine HPU.out.mono ?_
      rintro r wb ⟨A9, c9, rfl, ho, hb⟩
      rw [HL.out, HNL.out] at ho
      rw [HL.out, HNL.out, HF0.out]
      obtain ⟨lb, hlb⟩ : ∃ lb, wa.heap.size = lb := ⟨_, rfl⟩
      rw [hlb] at ho
      have hlr : wr.heap.size ≤ lb := by rw [← hlb]; exact TA.out.1.size
      have TB := Lib.hid (TA.out.call hb)
      have hlo1 : lb ≤ wb.heap.size := by rw [← hlb]; exact hb.size
      have HRO := Lib.hid ho
      clear HPU ho hb TA m0 m1 m2 m3 m4 hlb
      have HSA := Lib.hid (say13_v t d wb TB.out.2.2.2.2.2.1 (by have := HBS.out; omega) HBL.out (by have := (qG_bd TB.out.2.2.2.2.2.1 HQG.out).1; omega) (by have := (qG_bd TB.out.2.2.2.2.2.1 HQG.out).2.1; omega) (fun z hz => by have := (qG_bd TB.out.2.2.2.2.2.1 HQG.out).2.2.2 z hz; omega))
      obtain ⟨-, -, -, -, ⟨m0, m1, m2, m3, m4⟩, -⟩ := TB.out
      go_wp2_with fail
      refine HSA.out.mono ?_
      rintro r wc ⟨tv, rfl, hqv, hov, hb⟩
      rw [HEE.out] at hqv hov
      rw [HEE.out, HF1.out]
      obtain ⟨lo, hlo⟩ : ∃ lo, wb.heap.size = lo := ⟨_, rfl⟩
      obtain ⟨P, hP⟩ : ∃ P, wc.heap.size = P := ⟨_, rfl⟩
      have HLT : Hid (∀ g, A9 = some ⟨g, 0, none⟩ → g < lo) := Lib.hid fun g e => by rw [← hlo]; exact (HRO.out.lt g (by rw [e]; rfl)).2
      have hlp : lo ≤ P := by rw [← hlo, ← hP]; exact hb.size
      rw [hlo, hP] at hov
      rw [hlo] at hlo1
      have TC := Lib.hid ((TB.out.call hb).call (new1 (a := dcel tv E)))
      have HT : Hid (Tl13 wr P N M B lo lb nl c9 c6 tv tw t y E d A9 A6 L (wc.alloc (dcel tv E))) := Lib.hid ⟨by rw [← hP]; exact Db.new wc tv E, TC.out.2.1, TC.out.2.2.2.2.1, TC.out.2.2.2.2.2.2.1, hqv.keep new1, hov.keep new1, TC.out.2.2.1, TC.out.2.2.2.2.2.1, TC.out.2.2.2.2.2.2.2.1, TC.out.2.2.2.1, own_below (own_below HRO.out hb (Nat.le_refl _)) new1 (Nat.le_refl _), TC.out.1⟩
      clear HSA hqv hov hb TB TC HRO m0 m1 m2 m3 m4
      go_upto_region 13 with (fail)
      change Code.wp _ _ _ _ (wc.alloc (dcel tv E))
      generalize wc.alloc (dcel tv E) = wd at HT ⊢
      clear hP hlo
      have HS1 : Hid (∀ w', Tl13 wr P N M B lo lb nl c9 c6 tv tw t y E d A9 A6 L w' → Calls Try.prog 15 #[.slice A9 nl c9, .slice A6 nl c6] w' fun r w'' => r = .returned (.bool true) ∧ Below w'.heap.size w' w'') := Lib.hid fun w' h =>
        (r13same_v A9 A6 c9 c6 nl nl L L w' (rb13_of h.ro) h.rl HNL.out HNL.out).mono (by rintro r w'' ⟨rfl, hb⟩; exact ⟨by simp, hb⟩)
      have HS2 : Hid (∀ w', Tl13 wr P N M B lo lb nl c9 c6 tv tw t y E d A9 A6 L w' → Calls Try.prog 16 #[dv tv E, dv tw E] w' fun r w'' => r = .returned (.bool true) ∧ Below w'.heap.size w' w'') := Lib.hid fun w' h => r8same_v tv tw E E true w' h.qv h.qw (qS_self E)
      have HS3 : Hid (∀ w', Tl13 wr P N M B lo lb nl c9 c6 tv tw t y E d A9 A6 L w' → Calls Try.prog 17 #[dv t d] w' fun r w'' => r = .returned (.int .i64 (ch13 d)) ∧ Below w'.heap.size w' w'') := Lib.hid fun w' h => check13_v t d w' h.qt (by have := HBS.out; omega) HBL.out
      have HS4 : Hid (∀ w', Tl13 wr P N M B lo lb nl c9 c6 tv tw t y E d A9 A6 L w' → Calls Try.prog 18 #[dv y d] w' fun r w'' => r = .returned (.int .i64 (ch13 d)) ∧ Below w'.heap.size w' w'') := Lib.hid fun w' h => r13check_v y d w' h.qy (by have := HBS.out; omega)
      have HS5 : Hid (∀ w', Tl13 wr P N M B lo lb nl c9 c6 tv tw t y E d A9 A6 L w' → Calls Try.prog 16 #[dv t d, dv y d] w' fun r w'' => r = .returned (.bool true) ∧ Below w'.heap.size w' w'') := Lib.hid fun w' h => r8same_v t y d d true w' h.qt h.qy (qS_self d)
      refine wp_region_held_drew (S := Tl13 wr P N M B lo lb nl c9 c6 tv tw t y E d A9 A6 L) (by kernel_rfl) (HT.out.keep (below_draws (Below.refl _ _) 1)) (fun hHeld => ?_)
      refine wpAnyH_take (i := 0) (v := ?_) rfl (by kernel_rfl) (by kernel_rfl) (by kernel_rfl) (fun _ _ _ h => h) (Or.inl ⟨by rfl, ?_⟩) (by assumption) ?_
      rotate_left 1
      · intro w _; go_simp; try with_reducible rfl
      try simp only [Act.put, List.getElem_toArray, List.getElem_cons_zero, List.getElem_cons_succ, List.setIfInBounds_toArray, List.set_cons_zero, List.set_cons_succ]
      refine wpAnyH_take (i := 1) (v := ?_) rfl (by kernel_rfl) (by kernel_rfl) (by kernel_rfl) (fun _ _ _ h => h) (Or.inl ⟨by rfl, ?_⟩) (by assumption) ?_
      rotate_left 1
      · intro w _; go_simp; try with_reducible rfl
      try simp only [Act.put, List.getElem_toArray, List.getElem_cons_zero, List.getElem_cons_succ, List.setIfInBounds_toArray, List.set_cons_zero, List.set_cons_succ]
      refine wpAnyH_take (i := 2) (v := ?_) rfl (by kernel_rfl) (by kernel_rfl) (by kernel_rfl) (fun _ _ _ h => h) (Or.inl ⟨by rfl, ?_⟩) (by assumption) ?_
      rotate_left 1
      · intro w _; go_simp; try with_reducible rfl
      try simp only [Act.put, List.getElem_toArray, List.getElem_cons_zero, List.getElem_cons_succ, List.setIfInBounds_toArray, List.set_cons_zero, List.set_cons_succ]
      refine wpAnyH_take (i := 3) (v := ?_) rfl (by kernel_rfl) (by kernel_rfl) (by kernel_rfl) (fun _ _ _ h => h) (Or.inl ⟨by rfl, ?_⟩) (by assumption) ?_
      rotate_left 1
      · intro w _; go_simp; try with_reducible rfl
      try simp only [Act.put, List.getElem_toArray, List.getElem_cons_zero, List.getElem_cons_succ, List.setIfInBounds_toArray, List.set_cons_zero, List.set_cons_succ]
      refine wpAnyH_take (i := 4) (v := ?_) rfl (by kernel_rfl) (by kernel_rfl) (by kernel_rfl) (fun _ _ _ h => h) (Or.inl ⟨by rfl, ?_⟩) (by assumption) ?_
      rotate_left 1
      · intro w _; go_simp; try with_reducible rfl
      try simp only [Act.put, List.getElem_toArray, List.getElem_cons_zero, List.getElem_cons_succ, List.setIfInBounds_toArray, List.set_cons_zero, List.set_cons_succ]
      refine wpAnyH_take (i := 5) (v := ?_) rfl (by kernel_rfl) (by kernel_rfl) (by kernel_rfl) (fun _ _ _ h => h) (Or.inl ⟨by rfl, ?_⟩) (by assumption) ?_
      rotate_left 1
      · intro w _; go_simp; try with_reducible rfl
      try simp only [Act.put, List.getElem_toArray, List.getElem_cons_zero, List.getElem_cons_succ, List.setIfInBounds_toArray, List.set_cons_zero, List.set_cons_succ]
      refine wpAnyH_take (i := 6) (v := ?_) rfl (by kernel_rfl) (by kernel_rfl) (by kernel_rfl) (fun _ _ _ h => h) (Or.inl ⟨by rfl, ?_⟩) (by assumption) ?_
      rotate_left 1
      · intro w _; go_simp; try with_reducible rfl
      try simp only [Act.put, List.getElem_toArray, List.getElem_cons_zero, List.getElem_cons_succ, List.setIfInBounds_toArray, List.set_cons_zero, List.set_cons_succ]
      refine wpAnyH_take (i := 7) (v := ?_) rfl (by kernel_rfl) (by kernel_rfl) (by kernel_rfl) (fun _ _ _ h => h) (Or.inl ⟨by rfl, ?_⟩) (by assumption) ?_
      rotate_left 1
      · intro w _; go_simp; try with_reducible rfl
      try simp only [Act.put, List.getElem_toArray, List.getElem_cons_zero, List.getElem_cons_succ, List.setIfInBounds_toArray, List.set_cons_zero, List.set_cons_succ]
      refine wpAnyH_take (i := 8) (v := ?_) rfl (by kernel_rfl) (by kernel_rfl) (by kernel_rfl) (fun _ _ _ h => h) (Or.inl ⟨by rfl, ?_⟩) (by assumption) ?_
      rotate_left 1
      · intro w _; go_simp; try with_reducible rfl
      try simp only [Act.put, List.getElem_toArray, List.getElem_cons_zero, List.getElem_cons_succ, List.setIfInBounds_toArray, List.set_cons_zero, List.set_cons_succ]
      refine wpAnyH_take (i := 9) (v := ?_) rfl (by kernel_rfl) (by kernel_rfl) (by kernel_rfl) (fun _ _ _ h => h) (Or.inl ⟨by rfl, ?_⟩) (by assumption) ?_
      rotate_left 1
      · intro w _; go_simp; try with_reducible rfl
      try simp only [Act.put, List.getElem_toArray, List.getElem_cons_zero, List.getElem_cons_succ, List.setIfInBounds_toArray, List.set_cons_zero, List.set_cons_succ]
      refine wpAnyH_take (i := 10) (v := ?_) rfl (by kernel_rfl) (by kernel_rfl) (by kernel_rfl) (fun _ _ _ h => h) (Or.inl ⟨by rfl, ?_⟩) (by assumption) ?_
      rotate_left 1
      · intro w _; go_simp; try with_reducible rfl
      try simp only [Act.put, List.getElem_toArray, List.getElem_cons_zero, List.getElem_cons_succ, List.setIfInBounds_toArray, List.set_cons_zero, List.set_cons_succ]
      refine wpAnyH_ready (rs := [11]) (by kernel_rfl) (by simp) ?_
      refine AllReadyH.cons rfl (fun K hK => ?_) AllReadyH.nil
      go_simp
      refine (HS1.out _ hHeld).mono ?_
      rintro r w71 ⟨rfl, hb⟩
      have HK := hHeld.keep hb
      clear hb
      go_wp2_with fail
      refine hK.out _ _ (HK) (fun hHeld => ?_)
      clear hK K
      try simp only [Act.put, List.getElem_toArray, List.getElem_cons_zero, List.getElem_cons_succ, List.setIfInBounds_toArray, List.set_cons_zero, List.set_cons_succ]
      refine wpAnyH_take (i := 12) (v := ?_) rfl (by kernel_rfl) (by kernel_rfl) (by kernel_rfl) (fun _ _ _ h => h) (Or.inl ⟨by rfl, ?_⟩) (by assumption) ?_
      rotate_left 1
      · intro w _; go_simp; try with_reducible rfl
      try simp only [Act.put, List.getElem_toArray, List.getElem_cons_zero, List.getElem_cons_succ, List.setIfInBounds_toArray, List.set_cons_zero, List.set_cons_succ]
      refine wpAnyH_take (i := 13) (v := ?_) rfl (by kernel_rfl) (by kernel_rfl) (by kernel_rfl) (fun _ _ _ h => h) (Or.inl ⟨by rfl, ?_⟩) (by assumption) ?_
      rotate_left 1
      · intro w _; go_simp; try with_reducible rfl
      try simp only [Act.put, List.getElem_toArray, List.getElem_cons_zero, List.getElem_cons_succ, List.setIfInBounds_toArray, List.set_cons_zero, List.set_cons_succ]
      refine wpAnyH_take (i := 14) (v := ?_) rfl (by kernel_rfl) (by kernel_rfl) (by kernel_rfl) (fun _ _ _ h => h) (Or.inl ⟨by rfl, ?_⟩) (by assumption) ?_
      rotate_left 1
      · intro w _; go_simp; try with_reducible rfl
      try simp only [Act.put, List.getElem_toArray, List.getElem_cons_zero, List.getElem_cons_succ, List.setIfInBounds_toArray, List.set_cons_zero, List.set_cons_succ]
      refine wpAnyH_take (i := 15) (v := ?_) rfl (by kernel_rfl) (by kernel_rfl) (by kernel_rfl) (fun _ _ _ h => h) (Or.inl ⟨by rfl, ?_⟩) (by assumption) ?_
      rotate_left 1
      · intro w _; go_simp; try with_reducible rfl
      try simp only [Act.put, List.getElem_toArray, List.getElem_cons_zero, List.getElem_cons_succ, List.setIfInBounds_toArray, List.set_cons_zero, List.set_cons_succ]
      refine wpAnyH_take (i := 16) (v := ?_) rfl (by kernel_rfl) (by kernel_rfl) (by kernel_rfl) (fun _ _ _ h => h) (Or.inl ⟨by rfl, ?_⟩) (by assumption) ?_
      rotate_left 1
      · intro w _; go_simp; try with_reducible rfl
      try simp only [Act.put, List.getElem_toArray, List.getElem_cons_zero, List.getElem_cons_succ, List.setIfInBounds_toArray, List.set_cons_zero, List.set_cons_succ]
      refine wpAnyH_take (i := 17) (v := ?_) rfl (by kernel_rfl) (by kernel_rfl) (by kernel_rfl) (fun _ _ _ h => h) (Or.inl ⟨by rfl, ?_⟩) (by assumption) ?_
      rotate_left 1
      · intro w _; go_simp; try with_reducible rfl
      try simp only [Act.put, List.getElem_toArray, List.getElem_cons_zero, List.getElem_cons_succ, List.setIfInBounds_toArray, List.set_cons_zero, List.set_cons_succ]
      refine wpAnyH_take (i := 18) (v := ?_) rfl (by kernel_rfl) (by kernel_rfl) (by kernel_rfl) (fun _ _ _ h => h) (Or.inl ⟨by rfl, ?_⟩) (by assumption) ?_
      rotate_left 1
      · intro w _; go_simp; try with_reducible rfl
      try simp only [Act.put, List.getElem_toArray, List.getElem_cons_zero, List.getElem_cons_succ, List.setIfInBounds_toArray, List.set_cons_zero, List.set_cons_succ]
      refine wpAnyH_take (i := 19) (v := ?_) rfl (by kernel_rfl) (by kernel_rfl) (by kernel_rfl) (fun _ _ _ h => h) (Or.inl ⟨by rfl, ?_⟩) (by assumption) ?_
      rotate_left 1
      · intro w _; go_simp; try with_reducible rfl
      try simp only [Act.put, List.getElem_toArray, List.getElem_cons_zero, List.getElem_cons_succ, List.setIfInBounds_toArray, List.set_cons_zero, List.set_cons_succ]
      refine wpAnyH_take (i := 20) (v := ?_) rfl (by kernel_rfl) (by kernel_rfl) (by kernel_rfl) (fun _ _ _ h => h) (Or.inl ⟨by rfl, ?_⟩) (by assumption) ?_
      rotate_left 1
      · intro w hSw; (try dsimp only at hSw); obtain ⟨⟨p0, p1, p2, p3, p4⟩, ⟨n0, n1, n2, n3, n4⟩, ⟨m0, m1, m2, m3, m4⟩, ⟨b0, b1, b2, b3, b4⟩, -⟩ := hSw; go_simp; try with_reducible rfl
      try simp only [Act.put, List.getElem_toArray, List.getElem_cons_zero, List.getElem_cons_succ, List.setIfInBounds_toArray, List.set_cons_zero, List.set_cons_succ]
      refine wpAnyH_take (i := 21) (v := ?_) rfl (by kernel_rfl) (by kernel_rfl) (by kernel_rfl) (fun _ _ _ h => h) (Or.inl ⟨by rfl, ?_⟩) (by assumption) ?_
      rotate_left 1
      · intro w hSw; (try dsimp only at hSw); obtain ⟨⟨p0, p1, p2, p3, p4⟩, ⟨n0, n1, n2, n3, n4⟩, ⟨m0, m1, m2, m3, m4⟩, ⟨b0, b1, b2, b3, b4⟩, -⟩ := hSw; go_simp; try with_reducible rfl
      try simp only [Act.put, List.getElem_toArray, List.getElem_cons_zero, List.getElem_cons_succ, List.setIfInBounds_toArray, List.set_cons_zero, List.set_cons_succ]
      refine wpAnyH_ready (rs := [22]) (by kernel_rfl) (by simp) ?_
      refine AllReadyH.cons rfl (fun K hK => ?_) AllReadyH.nil
      go_simp
      refine (HS2.out _ hHeld).mono ?_
      rintro r w82 ⟨rfl, hb⟩
      have HK := hHeld.keep hb
      clear hb
      go_wp2_with fail
      refine hK.out _ _ (HK) (fun hHeld => ?_)
      clear hK K
      try simp only [Act.put, List.getElem_toArray, List.getElem_cons_zero, List.getElem_cons_succ, List.setIfInBounds_toArray, List.set_cons_zero, List.set_cons_succ]
      refine wpAnyH_take (i := 23) (v := ?_) rfl (by kernel_rfl) (by kernel_rfl) (by kernel_rfl) (fun _ _ _ h => h) (Or.inl ⟨by rfl, ?_⟩) (by assumption) ?_
      rotate_left 1
      · intro w _; go_simp; try with_reducible rfl
      try simp only [Act.put, List.getElem_toArray, List.getElem_cons_zero, List.getElem_cons_succ, List.setIfInBounds_toArray, List.set_cons_zero, List.set_cons_succ]
      refine wpAnyH_take (i := 24) (v := ?_) rfl (by kernel_rfl) (by kernel_rfl) (by kernel_rfl) (fun _ _ _ h => h) (Or.inl ⟨by rfl, ?_⟩) (by assumption) ?_
      rotate_left 1
      · intro w _; go_simp; try with_reducible rfl
      try simp only [Act.put, List.getElem_toArray, List.getElem_cons_zero, List.getElem_cons_succ, List.setIfInBounds_toArray, List.set_cons_zero, List.set_cons_succ]
      refine wpAnyH_take (i := 25) (v := ?_) rfl (by kernel_rfl) (by kernel_rfl) (by kernel_rfl) (fun _ _ _ h => h) (Or.inl ⟨by rfl, ?_⟩) (by assumption) ?_
      rotate_left 1
      · intro w _; go_simp; try with_reducible rfl
      try simp only [Act.put, List.getElem_toArray, List.getElem_cons_zero, List.getElem_cons_succ, List.setIfInBounds_toArray, List.set_cons_zero, List.set_cons_succ]
      refine wpAnyH_take (i := 26) (v := ?_) rfl (by kernel_rfl) (by kernel_rfl) (by kernel_rfl) (fun _ _ _ h => h) (Or.inl ⟨by rfl, ?_⟩) (by assumption) ?_
      rotate_left 1
      · intro w _; go_simp; try with_reducible rfl
      try simp only [Act.put, List.getElem_toArray, List.getElem_cons_zero, List.getElem_cons_succ, List.setIfInBounds_toArray, List.set_cons_zero, List.set_cons_succ]
      refine wpAnyH_take (i := 27) (v := ?_) rfl (by kernel_rfl) (by kernel_rfl) (by kernel_rfl) (fun _ _ _ h => h) (Or.inl ⟨by rfl, ?_⟩) (by assumption) ?_
      rotate_left 1
      · intro w _; go_simp; try with_reducible rfl
      try simp only [Act.put, List.getElem_toArray, List.getElem_cons_zero, List.getElem_cons_succ, List.setIfInBounds_toArray, List.set_cons_zero, List.set_cons_succ]
      refine wpAnyH_take (i := 28) (v := ?_) rfl (by kernel_rfl) (by kernel_rfl) (by kernel_rfl) (fun _ _ _ h => h) (Or.inl ⟨by rfl, ?_⟩) (by assumption) ?_
      rotate_left 1
      · intro w _; go_simp; try with_reducible rfl
      try simp only [Act.put, List.getElem_toArray, List.getElem_cons_zero, List.getElem_cons_succ, List.setIfInBounds_toArray, List.set_cons_zero, List.set_cons_succ]
      refine wpAnyH_take (i := 29) (v := ?_) rfl (by kernel_rfl) (by kernel_rfl) (by kernel_rfl) (fun _ _ _ h => h) (Or.inl ⟨by rfl, ?_⟩) (by assumption) ?_
      rotate_left 1
      · intro w _; go_simp; try with_reducible rfl
      try simp only [Act.put, List.getElem_toArray, List.getElem_cons_zero, List.getElem_cons_succ, List.setIfInBounds_toArray, List.set_cons_zero, List.set_cons_succ]
      refine wpAnyH_take (i := 30) (v := ?_) rfl (by kernel_rfl) (by kernel_rfl) (by kernel_rfl) (fun _ _ _ h => h) (Or.inl ⟨by rfl, ?_⟩) (by assumption) ?_
      rotate_left 1
      · intro w _; go_simp; try with_reducible rfl
      try simp only [Act.put, List.getElem_toArray, List.getElem_cons_zero, List.getElem_cons_succ, List.setIfInBounds_toArray, List.set_cons_zero, List.set_cons_succ]
      refine wpAnyH_take (i := 31) (v := ?_) rfl (by kernel_rfl) (by kernel_rfl) (by kernel_rfl) (fun _ _ _ h => h) (Or.inl ⟨by rfl, ?_⟩) (by assumption) ?_
      rotate_left 1
      · intro w hSw; (try dsimp only at hSw); obtain ⟨⟨p0, p1, p2, p3, p4⟩, ⟨n0, n1, n2, n3, n4⟩, ⟨m0, m1, m2, m3, m4⟩, ⟨b0, b1, b2, b3, b4⟩, -⟩ := hSw; go_simp; try with_reducible rfl
      try simp only [Act.put, List.getElem_toArray, List.getElem_cons_zero, List.getElem_cons_succ, List.setIfInBounds_toArray, List.set_cons_zero, List.set_cons_succ]
      refine wpAnyH_take (i := 33) (v := ?_) rfl (by kernel_rfl) (by kernel_rfl) (by kernel_rfl) (fun _ _ _ h => h) (Or.inl ⟨by rfl, ?_⟩) (by assumption) ?_
      rotate_left 1
      · intro w hSw; (try dsimp only at hSw); obtain ⟨⟨p0, p1, p2, p3, p4⟩, ⟨n0, n1, n2, n3, n4⟩, ⟨m0, m1, m2, m3, m4⟩, ⟨b0, b1, b2, b3, b4⟩, -⟩ := hSw; go_simp; try with_reducible rfl
      try simp only [Act.put, List.getElem_toArray, List.getElem_cons_zero, List.getElem_cons_succ, List.setIfInBounds_toArray, List.set_cons_zero, List.set_cons_succ]
      refine wpAnyH_ready (rs := [32]) (by kernel_rfl) (by simp) ?_
      refine AllReadyH.cons rfl (fun K hK => ?_) AllReadyH.nil
      go_simp
      refine (HS3.out _ hHeld).mono ?_
      rintro r w92 ⟨rfl, hb⟩
      have HK := hHeld.keep hb
      clear hb
      go_wp2_with fail
      refine hK.out _ _ (HK) (fun hHeld => ?_)
      clear hK K
      try simp only [Act.put, List.getElem_toArray, List.getElem_cons_zero, List.getElem_cons_succ, List.setIfInBounds_toArray, List.set_cons_zero, List.set_cons_succ]
      refine wpAnyH_ready (rs := [34]) (by kernel_rfl) (by simp) ?_
      refine AllReadyH.cons rfl (fun K hK => ?_) AllReadyH.nil
      go_simp
      refine (HS4.out _ hHeld).mono ?_
      rintro r w94 ⟨rfl, hb⟩
      have HK := hHeld.keep hb
      clear hb
      go_wp2_with fail
      refine hK.out _ _ (HK) (fun hHeld => ?_)
      clear hK K
      try simp only [Act.put, List.getElem_toArray, List.getElem_cons_zero, List.getElem_cons_succ, List.setIfInBounds_toArray, List.set_cons_zero, List.set_cons_succ]
      refine wpAnyH_take (i := 35) (v := ?_) rfl (by kernel_rfl) (by kernel_rfl) (by kernel_rfl) (fun _ _ _ h => h) (Or.inl ⟨by rfl, ?_⟩) (by assumption) ?_
      rotate_left 1
      · intro w _; go_simp; try with_reducible rfl
      try simp only [Act.put, List.getElem_toArray, List.getElem_cons_zero, List.getElem_cons_succ, List.setIfInBounds_toArray, List.set_cons_zero, List.set_cons_succ]
      refine wpAnyH_take (i := 36) (v := ?_) rfl (by kernel_rfl) (by kernel_rfl) (by kernel_rfl) (fun _ _ _ h => h) (Or.inl ⟨by rfl, ?_⟩) (by assumption) ?_
      rotate_left 1
      · intro w _; go_simp; try with_reducible rfl
      try simp only [Act.put, List.getElem_toArray, List.getElem_cons_zero, List.getElem_cons_succ, List.setIfInBounds_toArray, List.set_cons_zero, List.set_cons_succ]
      refine wpAnyH_take (i := 37) (v := ?_) rfl (by kernel_rfl) (by kernel_rfl) (by kernel_rfl) (fun _ _ _ h => h) (Or.inl ⟨by rfl, ?_⟩) (by assumption) ?_
      rotate_left 1
      · intro w _; go_simp; try with_reducible rfl
      try simp only [Act.put, List.getElem_toArray, List.getElem_cons_zero, List.getElem_cons_succ, List.setIfInBounds_toArray, List.set_cons_zero, List.set_cons_succ]
      refine wpAnyH_take (i := 38) (v := ?_) rfl (by kernel_rfl) (by kernel_rfl) (by kernel_rfl) (fun _ _ _ h => h) (Or.inl ⟨by rfl, ?_⟩) (by assumption) ?_
      rotate_left 1
      · intro w hSw; (try dsimp only at hSw); obtain ⟨⟨p0, p1, p2, p3, p4⟩, ⟨n0, n1, n2, n3, n4⟩, ⟨m0, m1, m2, m3, m4⟩, ⟨b0, b1, b2, b3, b4⟩, -⟩ := hSw; go_simp; try with_reducible rfl
      try simp only [Act.put, List.getElem_toArray, List.getElem_cons_zero, List.getElem_cons_succ, List.setIfInBounds_toArray, List.set_cons_zero, List.set_cons_succ]
      refine wpAnyH_take (i := 39) (v := ?_) rfl (by kernel_rfl) (by kernel_rfl) (by kernel_rfl) (fun _ _ _ h => h) (Or.inl ⟨by rfl, ?_⟩) (by assumption) ?_
      rotate_left 1
      · intro w hSw; (try dsimp only at hSw); obtain ⟨⟨p0, p1, p2, p3, p4⟩, ⟨n0, n1, n2, n3, n4⟩, ⟨m0, m1, m2, m3, m4⟩, ⟨b0, b1, b2, b3, b4⟩, -⟩ := hSw; go_simp; try with_reducible rfl
      try simp only [Act.put, List.getElem_toArray, List.getElem_cons_zero, List.getElem_cons_succ, List.setIfInBounds_toArray, List.set_cons_zero, List.set_cons_succ]
      refine wpAnyH_ready (rs := [40]) (by kernel_rfl) (by simp) ?_
      refine AllReadyH.cons rfl (fun K hK => ?_) AllReadyH.nil
      go_simp
      refine (HS5.out _ hHeld).mono ?_
      rintro r w100 ⟨rfl, hb⟩
      have HK := hHeld.keep hb
      clear hb
      go_wp2_with fail
      refine hK.out _ _ (HK) (fun hHeld => ?_)
      clear hK K
      try simp only [Act.put, List.getElem_toArray, List.getElem_cons_zero, List.getElem_cons_succ, List.setIfInBounds_toArray, List.set_cons_zero, List.set_cons_succ]
      refine wpAnyH_take (i := 41) (v := ?_) rfl (by kernel_rfl) (by kernel_rfl) (by kernel_rfl) (fun _ _ _ h => h) (Or.inl ⟨by rfl, ?_⟩) (by assumption) ?_
      rotate_left 1
      · intro w _; go_simp; try with_reducible rfl
      try simp only [Act.put, List.getElem_toArray, List.getElem_cons_zero, List.getElem_cons_succ, List.setIfInBounds_toArray, List.set_cons_zero, List.set_cons_succ]
      refine wpAnyH_take (i := 42) (v := ?_) rfl (by kernel_rfl) (by kernel_rfl) (by kernel_rfl) (fun _ _ _ h => h) (Or.inl ⟨by rfl, ?_⟩) (by assumption) ?_
      rotate_left 1
      · intro w _; go_simp; try with_reducible rfl
      try simp only [Act.put, List.getElem_toArray, List.getElem_cons_zero, List.getElem_cons_succ, List.setIfInBounds_toArray, List.set_cons_zero, List.set_cons_succ]
      refine wpAnyH_done (by kernel_rfl) ?_ _
      clear hHeld
      have HT := Lib.hid HK
      clear HK HS1 HS2 HS3 HS4 HS5
      go_wp2_with fail
      go_loopw [19] (fun iv wq => ∃ (i : Nat) (X : List Bool), i ≤ nl ∧ iv = .int .i64 i ∧ Hid (Sp lb lo w100 wq ∧ wq.ownsRow lb 4 1 (.slice A9 nl c9) nl (cb13 X))) (fun iv _ => nl - (intOf iv).toNat)
      case atStart => exact ⟨0, L, by omega, rfl, Lib.hid ⟨Sp.refl _ _ _, HT.out.ro⟩⟩
      case round =>
        obtain ⟨i, X, hi, rfl, HX⟩ := hrel
        rename World => wq
        by_cases h2 : i < nl
        · obtain ⟨g, hA9, hgl, -, hc⟩ := bo13_cells HX.out.2 (by omega)
          have hxl : X.length = nl := by
            have := HX.out.2.1
            simp [cb13] at this
            omega
          have hcx := hc i _ (List.getElem?_eq_getElem (by omega))
          obtain ⟨x, hx⟩ : ∃ x, X[i]'(by omega) = x := ⟨_, rfl⟩
          rw [hx] at hcx
          have hgo := HLT.out g hA9
          subst hA9
          have hfz := HX.out.2.frozenAt i
          have hst := (HX.out.2.stored i (.bool !x)).1
          have HY : Hid (Sp lb lo w100 (wq.setCell ⟨g, i, none⟩ (.bool !x)) ∧ (wq.setCell ⟨g, i, none⟩ (.bool !x)).ownsRow lb 4 1 (.slice (some ⟨g, 0, none⟩) nl c9) nl (cb13 (X.set i !x))) := Lib.hid ⟨HX.out.1.set hgl hgo i _, by
            have e : cb13 (X.set i !x) = (cb13 X).set i (.bool !x) := by simp [cb13, List.map_set]
            rw [e]
            exact hst⟩
          clear hc hxl hx hst HX
          go_wp2_with fail
          go_roundw
          case rel => exact ⟨i + 1, X.set i !x, by omega, by go_num, HY⟩
          case measure => simp [intOf]; omega
        · obtain rfl : nl = i := by omega
          have hqv := HT.out.qv.apart HT.out.ov HX.out.1 (.inr (Nat.le_refl _))
          have hov := HT.out.ov.apart HX.out.1 (.inr (Nat.le_refl _))
          have hdb := HT.out.p.apart HX.out.1 (.inr hlp)
          have HSP := Lib.hid (spoilw hqv hov (Nat.le_of_lt hdb.1) HQE.out)
          obtain ⟨p0, p1, p2, p3, p4⟩ := hdb
          have hbq : Below wr.heap.size wr wq := HT.out.bl.trans ((HX.out.1.toBelow (Nat.le_trans (Nat.le_trans hlo1 hlp) (Nat.le_of_lt HT.out.p.1))).mono hlr)
          have HBQ := Lib.hid hbq
          have hlq : lo ≤ wq.heap.size := Nat.le_trans hlp (Nat.le_of_lt p0)
          clear hqv hov hbq HX HT
          go_wp2_with fail
          refine HSP.out.mono ?_
          rintro r we ⟨rfl, hsp⟩
          have SN := Lib.hid (SR.out.call (w' := we) (HBQ.out.trans ((hsp.toBelow hlq).mono (Nat.le_trans hlr hlo1))))
          clear HSP hsp HBQ SR p0 p1 p2 p3 p4
          have HSM := Lib.hid (r8same_v t y d d true we SN.out.2.2.2.2.2.1 SN.out.2.2.2.2.2.2.2.1 (qS_self d))
          obtain ⟨-, -, -, -, ⟨m0, m1, m2, m3, m4⟩, -, ⟨b0, b1, b2, b3, b4⟩, -⟩ := SN.out
          go_wp2_with fail
          refine HSM.out.mono ?_
          rintro r wf ⟨rfl, hb⟩
          have SM := Lib.hid (SN.out.call hb)
          clear HSM hb SN m0 m1 m2 m3 m4 b0 b1 b2 b3 b4
          go_wp2_with fail
          go_roundw
          case rel => exact ⟨j + 1, by omega, by go_num, SM⟩
          case measure => simp [intOf]; omega
    · obtain rfl : j = 2 := by omega
      have HE := Lib.hid SR.out.1
      clear SR
      go_wp2_with fail
      go_ret
      exact ⟨rfl, HE.out⟩
end Go.Proofs.Ytimjnmkfbdijeaa
