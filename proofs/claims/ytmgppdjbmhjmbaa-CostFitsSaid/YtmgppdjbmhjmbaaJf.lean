/-
  The reference's Fits; law CostFits.
-/
import Derived.Test.YtmgppdjbmhjmbaaJe
namespace Go.Proofs.Ytmgppdjbmhjmbaa
open Go.RowKit
set_option maxRecDepth 100000
set_option linter.unusedSimpArgs false
set_option linter.unusedVariables false

theorem fi12_false {c : Ce} {m : Mh} (h : ¬ ((0 ≤ c.1 ∧ c.1 ≤ m.f ∧ c.1 ≤ 1048576) ∧ (0 ≤ c.2.1 ∧ c.2.1 ≤ m.s ∧ c.2.1 ≤ 256) ∧ (0 ≤ c.2.2 ∧ c.2.2 ≤ m.h ∧ c.2.2 ≤ 1024))) : fi12 c m = false := by
  rw [← Bool.not_eq_true, fi12_iff]
  exact h
set_option maxHeartbeats 4000000 in
theorem r12fits_v (cf cs ch : Int) (x : Mc) (m : Mh) (w : World) : Calls Try.prog 7 #[cv (cf, cs, ch), mv x m] w fun e w' => e = .returned (.bool (fi12 (cf, cs, ch) m)) ∧ Below w.heap.size w w' := by
  have HB : Hid (Below w.heap.size w ((w.alloc (.cells #[.int .i64 cf, .int .i64 cs, .int .i64 ch] 23)).alloc (hcel x m))) := Lib.hid (new1.trans (new1.mono (by simp)))
  by_cases a0 : cf < 0
  · have e0 : decide (cf < 0) = true := by simpa using a0
    have HF : Hid (fi12 (cf, cs, ch) m = false) := Lib.hid (fi12_false (by dsimp only; omega))
    rw [HF.out]
    go_enter Try.func7, Try.ntmps7
    go_wp2_with fail
    go_ret
    exact ⟨rfl, HB.out⟩
  have e0 : decide (cf < 0) = false := by simpa using a0
  by_cases a1 : cs < 0
  · have e1 : decide (cs < 0) = true := by simpa using a1
    have HF : Hid (fi12 (cf, cs, ch) m = false) := Lib.hid (fi12_false (by dsimp only; omega))
    rw [HF.out]
    go_enter Try.func7, Try.ntmps7
    go_wp2_with fail
    go_ret
    exact ⟨rfl, HB.out⟩
  have e1 : decide (cs < 0) = false := by simpa using a1
  by_cases a2 : ch < 0
  · have e2 : decide (ch < 0) = true := by simpa using a2
    have HF : Hid (fi12 (cf, cs, ch) m = false) := Lib.hid (fi12_false (by dsimp only; omega))
    rw [HF.out]
    go_enter Try.func7, Try.ntmps7
    go_wp2_with fail
    go_ret
    exact ⟨rfl, HB.out⟩
  have e2 : decide (ch < 0) = false := by simpa using a2
  by_cases a3 : 1048576 < cf
  · have e3 : decide (1048576 < cf) = true := by simpa using a3
    have HF : Hid (fi12 (cf, cs, ch) m = false) := Lib.hid (fi12_false (by dsimp only; omega))
    rw [HF.out]
    go_enter Try.func7, Try.ntmps7
    go_wp2_with fail
    go_ret
    exact ⟨rfl, HB.out⟩
  have e3 : decide (1048576 < cf) = false := by simpa using a3
  by_cases a4 : 256 < cs
  · have e4 : decide (256 < cs) = true := by simpa using a4
    have HF : Hid (fi12 (cf, cs, ch) m = false) := Lib.hid (fi12_false (by dsimp only; omega))
    rw [HF.out]
    go_enter Try.func7, Try.ntmps7
    go_wp2_with fail
    go_ret
    exact ⟨rfl, HB.out⟩
  have e4 : decide (256 < cs) = false := by simpa using a4
  by_cases a5 : 1024 < ch
  · have e5 : decide (1024 < ch) = true := by simpa using a5
    have HF : Hid (fi12 (cf, cs, ch) m = false) := Lib.hid (fi12_false (by dsimp only; omega))
    rw [HF.out]
    go_enter Try.func7, Try.ntmps7
    go_wp2_with fail
    go_ret
    exact ⟨rfl, HB.out⟩
  have e5 : decide (1024 < ch) = false := by simpa using a5
  by_cases a6 : ¬ cf ≤ m.f
  · have e6 : decide (cf ≤ m.f) = false := by simpa using a6
    have HF : Hid (fi12 (cf, cs, ch) m = false) := Lib.hid (fi12_false (by dsimp only; omega))
    rw [HF.out]
    go_enter Try.func7, Try.ntmps7
    go_wp2_with fail
    go_ret
    exact ⟨rfl, HB.out⟩
  have e6 : decide (cf ≤ m.f) = true := by simpa using a6
  by_cases a7 : ¬ cs ≤ m.s
  · have e7 : decide (cs ≤ m.s) = false := by simpa using a7
    have HF : Hid (fi12 (cf, cs, ch) m = false) := Lib.hid (fi12_false (by dsimp only; omega))
    rw [HF.out]
    go_enter Try.func7, Try.ntmps7
    go_wp2_with fail
    go_ret
    exact ⟨rfl, HB.out⟩
  have e7 : decide (cs ≤ m.s) = true := by simpa using a7
  by_cases a8 : ¬ ch ≤ m.h
  · have e8 : decide (ch ≤ m.h) = false := by simpa using a8
    have HF : Hid (fi12 (cf, cs, ch) m = false) := Lib.hid (fi12_false (by dsimp only; omega))
    rw [HF.out]
    go_enter Try.func7, Try.ntmps7
    go_wp2_with fail
    go_ret
    exact ⟨rfl, HB.out⟩
  have e8 : decide (ch ≤ m.h) = true := by simpa using a8
  have HF : Hid (fi12 (cf, cs, ch) m = true) := Lib.hid (fi12_iff.2 (by dsimp only; omega))
  rw [HF.out]
  go_enter Try.func7, Try.ntmps7
  go_wp2_with fail
  go_ret
  exact ⟨rfl, HB.out⟩
/-- Block B holds a certificate. -/
def Cb12 (w : World) (B : Nat) (c : Ce) : Prop := B < w.heap.size ∧ w.cell? ⟨B, 0, none⟩ = some (.int .i64 c.1) ∧ w.cell? ⟨B, 1, none⟩ = some (.int .i64 c.2.1) ∧ w.cell? ⟨B, 2, none⟩ = some (.int .i64 c.2.2)
theorem Cb12.keep {w w' : World} {B : Nat} {c : Ce} (h : Cb12 w B c) (hb : Below w.heap.size w w') : Cb12 w' B c := by
  obtain ⟨h1, h2, h3, h4⟩ := h
  obtain ⟨hc, hf⟩ := bcell hb
  exact ⟨Nat.lt_of_lt_of_le h1 hb.size, (hc _ _ h1).trans h2, (hc _ _ h1).trans h3, (hc _ _ h1).trans h4⟩
theorem Cb12.new (w : World) (c : Ce) : Cb12 (w.alloc (.cells #[.int .i64 c.1, .int .i64 c.2.1, .int .i64 c.2.2] 23)) w.heap.size c := by
  refine ⟨by simp, ?_, ?_, ?_⟩ <;> simp [go_sem]
abbrev fCb (B : Nat) (c : Ce) : Fct := ⟨fun w => Cb12 w B c, fun _ _ h hb => h.keep hb⟩
set_option maxHeartbeats 4000000 in
theorem fits12_walk (cf cs ch : Int) (x : Mc) (m : Mh) (w : World) (hx : Hd w x m) : Calls Try.prog 3 #[.agg #[.int .i64 cf, .int .i64 cs, .int .i64 ch], mv x m] w fun e w' => e = .returned (.bool true) ∧ Below w.heap.size w w' := by
  obtain ⟨B, hB⟩ : ∃ B, w.heap.size = B := ⟨_, rfl⟩
  have S0 := Lib.hid (((((Sx.start w).add (fH x m) hx).mk1 (.cells #[.int .i64 cf, .int .i64 cs, .int .i64 ch] 23)).add (fCb B (cf, cs, ch)) (by rw [← hB]; exact Cb12.new w (cf, cs, ch))).mkM x m)
  obtain ⟨D, hD⟩ : ∃ D, (w.alloc (.cells #[.int .i64 cf, .int .i64 cs, .int .i64 ch] 23)).heap.size = D := ⟨_, rfl⟩
  have hD2 : w.heap.size + 1 = D := by rw [← hD]; simp
  rw [hD] at S0
  rw [hB] at hD2
  clear hx hD
  go_enter Try.func3, Try.ntmps3
  go_upto_region 1 with (fail)

  change Code.wp _ _ _ _ ((w.alloc (.cells #[.int .i64 cf, .int .i64 cs, .int .i64 ch] 23)).alloc (hcel x m))
  generalize ((w.alloc (.cells #[.int .i64 cf, .int .i64 cs, .int .i64 ch] 23)).alloc (hcel x m)) = w1 at S0 ⊢
  clear hB hD2
  obtain ⟨-, ⟨x0, x1, x2, x3, x4, x5, x6, x7, x8⟩, -, hx, -⟩ := S0.out
  have HG := Lib.hid (great_v x m w1 hx)
  clear hx
  go_wp2_with fail
  refine HG.out.mono ?_
  rintro e w2 ⟨rfl, hb⟩
  have S2 := Lib.hid (S0.out.call hb)
  clear HG hb S0 x0 x1 x2 x3 x4 x5 x6 x7 x8
  cases hg : gB m with
  | true =>
    go_wp2_with fail
    go_ret
    exact ⟨rfl, S2.out.1⟩
  | false =>
    clear hg
    go_upto_region 3 with (fail)
    refine wp_region_held_drew (S := fun w' => Hid (Sx w w' [fM D x m, fCb B (cf, cs, ch), fH x m])) (by kernel_rfl) (Hsx.drew S2) (fun hHeld => ?_)
    refine wpAnyH_take (i := 0) (v := ?_) rfl (by kernel_rfl) (by kernel_rfl) (by kernel_rfl) (fun _ _ _ h => h) (Or.inl ⟨by rfl, ?_⟩) (by assumption) ?_
    rotate_left 1
    · intro w hSw; (try dsimp only at hSw); obtain ⟨-, ⟨x0, x1, x2, x3, x4, x5, x6, x7, x8⟩, ⟨c0, c1, c2, c3⟩, -⟩ := hSw.out; go_simp; try with_reducible rfl
    try simp only [Act.put, List.getElem_toArray, List.getElem_cons_zero, List.getElem_cons_succ, List.setIfInBounds_toArray, List.set_cons_zero, List.set_cons_succ]
    refine wpAnyH_take (i := 1) (v := ?_) rfl (by kernel_rfl) (by kernel_rfl) (by kernel_rfl) (fun _ _ _ h => h) (Or.inl ⟨by rfl, ?_⟩) (by assumption) ?_
    rotate_left 1
    · intro w hSw; (try dsimp only at hSw); obtain ⟨-, ⟨x0, x1, x2, x3, x4, x5, x6, x7, x8⟩, ⟨c0, c1, c2, c3⟩, -⟩ := hSw.out; go_simp; try with_reducible rfl
    try simp only [Act.put, List.getElem_toArray, List.getElem_cons_zero, List.getElem_cons_succ, List.setIfInBounds_toArray, List.set_cons_zero, List.set_cons_succ]
    refine wpAnyH_take (i := 3) (v := ?_) rfl (by kernel_rfl) (by kernel_rfl) (by kernel_rfl) (fun _ _ _ h => h) (Or.inl ⟨by rfl, ?_⟩) (by assumption) ?_
    rotate_left 1
    · intro w hSw; (try dsimp only at hSw); obtain ⟨-, ⟨x0, x1, x2, x3, x4, x5, x6, x7, x8⟩, ⟨c0, c1, c2, c3⟩, -⟩ := hSw.out; go_simp; try with_reducible rfl
    try simp only [Act.put, List.getElem_toArray, List.getElem_cons_zero, List.getElem_cons_succ, List.setIfInBounds_toArray, List.set_cons_zero, List.set_cons_succ]
    refine wpAnyH_take (i := 4) (v := ?_) rfl (by kernel_rfl) (by kernel_rfl) (by kernel_rfl) (fun _ _ _ h => h) (Or.inl ⟨by rfl, ?_⟩) (by assumption) ?_
    rotate_left 1
    · intro w hSw; (try dsimp only at hSw); obtain ⟨-, ⟨x0, x1, x2, x3, x4, x5, x6, x7, x8⟩, ⟨c0, c1, c2, c3⟩, -⟩ := hSw.out; go_simp; try with_reducible rfl
    try simp only [Act.put, List.getElem_toArray, List.getElem_cons_zero, List.getElem_cons_succ, List.setIfInBounds_toArray, List.set_cons_zero, List.set_cons_succ]
    refine wpAnyH_ready (rs := [2]) (by kernel_rfl) (by simp) ?_
    refine AllReadyH.cons rfl (fun K hK => ?_) AllReadyH.nil
    go_simp
    refine (fits12_v (cf, cs, ch) x m _).mono ?_
    rintro r1 wb ⟨rfl, hb⟩
    go_wp2_with fail
    refine hK.out _ _ (Hsx.call hb hHeld) (fun hHeld => ?_)
    clear hK K
    try simp only [Act.put, List.getElem_toArray, List.getElem_cons_zero, List.getElem_cons_succ, List.setIfInBounds_toArray, List.set_cons_zero, List.set_cons_succ]
    refine wpAnyH_ready (rs := [5]) (by kernel_rfl) (by simp) ?_
    refine AllReadyH.cons rfl (fun K hK => ?_) AllReadyH.nil
    go_simp
    refine (r12fits_v cf cs ch x m _).mono ?_
    rintro r1 wb ⟨rfl, hb⟩
    go_wp2_with fail
    refine hK.out _ _ (Hsx.call hb hHeld) (fun hHeld => ?_)
    clear hK K
    try simp only [Act.put, List.getElem_toArray, List.getElem_cons_zero, List.getElem_cons_succ, List.setIfInBounds_toArray, List.set_cons_zero, List.set_cons_succ]
    refine wpAnyH_take (i := 6) (v := ?_) rfl (by kernel_rfl) (by kernel_rfl) (by kernel_rfl) (fun _ _ _ h => h) (Or.inl ⟨by rfl, ?_⟩) (by assumption) ?_
    rotate_left 1
    · intro w _; go_simp; try with_reducible rfl
    try simp only [Act.put, List.getElem_toArray, List.getElem_cons_zero, List.getElem_cons_succ, List.setIfInBounds_toArray, List.set_cons_zero, List.set_cons_succ]
    refine wpAnyH_take (i := 7) (v := ?_) rfl (by kernel_rfl) (by kernel_rfl) (by kernel_rfl) (fun _ _ _ h => h) (Or.inl ⟨by rfl, ?_⟩) (by assumption) ?_
    rotate_left 1
    · intro w _; go_simp; try with_reducible rfl
    try simp only [Act.put, List.getElem_toArray, List.getElem_cons_zero, List.getElem_cons_succ, List.setIfInBounds_toArray, List.set_cons_zero, List.set_cons_succ]
    refine wpAnyH_done (by kernel_rfl) ?_ _
    go_wp2_with fail
    go_ret
    exact ⟨by simp, hHeld.out.1⟩
end Go.Proofs.Ytmgppdjbmhjmbaa
