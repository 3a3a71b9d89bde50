/-
  The reference's small functions of layer 9: within, common, inside, SameInts.
-/
import Derived.Test.YtfchdggefedgoaaFr
import Derived.Test.YtfchdggefedgoaaFl
namespace Go.Proofs.Ytfchdggefedgoaa
open Go.RowKit
set_option maxRecDepth 100000
set_option linter.unusedSimpArgs false
set_option linter.unusedVariables false

theorem within9_v (f t p : Nat) (k : Int) (w : World) : Calls Try.prog 24 #[.agg #[.int .i64 f, .int .i64 t, .int .i64 k], .int .i64 p] w fun r w' => r = .returned (.bool (decide (f < p) && decide (p ≤ t))) ∧ Below w.heap.size w w' := by
  by_cases h1 : f < p
  · by_cases h2 : p ≤ t
    all_goals
      go_enter Try.func24, Try.ntmps24
      go_wp2_with fail
      go_ret
      exact ⟨by simp [h1, h2], new1⟩
  · go_enter Try.func24, Try.ntmps24
    go_wp2_with fail
    go_ret
    exact ⟨by simp [h1], new1⟩
theorem common9_v (f t f2 t2 : Nat) (k k2 : Int) (w : World) : Calls Try.prog 34 #[.agg #[.int .i64 f, .int .i64 t, .int .i64 k], .agg #[.int .i64 f2, .int .i64 t2, .int .i64 k2]] w fun r w' => r = .returned (.bool (decide (f < t2) && decide (f2 < t))) ∧ Below w.heap.size w w' := by
  by_cases h1 : f < t2
  · by_cases h2 : f2 < t
    all_goals
      go_enter Try.func34, Try.ntmps34
      go_wp2_with fail
      go_ret
      exact ⟨by simp [h1, h2], new1.trans (new1.mono (by simp))⟩
  · go_enter Try.func34, Try.ntmps34
    go_wp2_with fail
    go_ret
    exact ⟨by simp [h1], new1.trans (new1.mono (by simp))⟩
theorem inside9_v (f t f2 t2 : Nat) (k k2 : Int) (w : World) : Calls Try.prog 35 #[.agg #[.int .i64 f, .int .i64 t, .int .i64 k], .agg #[.int .i64 f2, .int .i64 t2, .int .i64 k2]] w fun r w' => r = .returned (.bool ((decide (f2 < f) && decide (f ≤ t2)) && (decide (f2 < t) && decide (t ≤ t2)))) ∧ Below w.heap.size w w' := by
  have W1 := fun w => Lib.hid (within9_v f2 t2 f k2 w)
  have W2 := fun w => Lib.hid (within9_v f2 t2 t k2 w)
  generalize (decide (f2 < f) && decide (f ≤ t2)) = b1 at W1 ⊢
  generalize (decide (f2 < t) && decide (t ≤ t2)) = b2 at W2 ⊢
  go_enter Try.func35, Try.ntmps35
  go_wp2_with fail
  refine (W1 _).out.mono ?_
  rintro r w1 ⟨rfl, hb1⟩
  have HB1 : Hid (Below w.heap.size w w1) := Lib.hid (new1.trans ((new1.trans (hb1.mono (by simp))).mono (by simp)))
  have e : ∀ B i v, ((w.alloc (.cells #[.int .i64 f, .int .i64 t, .int .i64 k] 41)).alloc (.cells #[.int .i64 f2, .int .i64 t2, .int .i64 k2] 41)).cell? ⟨B, i, none⟩ = some v → w1.cell? ⟨B, i, none⟩ = some v := fun B i v h => (hb1.cell (cell_lt h)).trans h
  have a1 := e w.heap.size 1 (.int .i64 t) (by simp [go_sem])
  have c0 := e (w.heap.size + 1) 0 (.int .i64 f2) (by simp [go_sem])
  have c1 := e (w.heap.size + 1) 1 (.int .i64 t2) (by simp [go_sem])
  have c2 := e (w.heap.size + 1) 2 (.int .i64 k2) (by simp [go_sem])
  clear e hb1
  cases b1 with
  | false =>
    go_wp2_with fail
    go_ret
    exact ⟨rfl, HB1.out⟩
  | true =>
    go_wp2_with fail
    refine (W2 _).out.mono ?_
    rintro r w2 ⟨rfl, hb2⟩
    have HB2 := Lib.hid (HB1.out.trans (hb2.mono HB1.out.size))
    clear hb2
    go_wp2_with fail
    go_ret
    exact ⟨rfl, HB2.out⟩
/-- Are two rows of integers the same? -/
theorem sameints9_v (A A2 : Option Addr) (c m c2 m2 : Nat) (L M : List Int) (w : World) (hr : Rn w A c L) (hm : L.length = m) (hr2 : Rn w A2 c2 M) (hm2 : M.length = m2) :
    Calls Try.prog 14 #[.slice A m c, .slice A2 m2 c2] w fun r w' => r = .returned (.bool (decide (L = M))) ∧ Below w.heap.size w w' := by
  have HL := Lib.hid hm
  have HM := Lib.hid hm2
  have HR := Lib.hid hr
  have HR2 := Lib.hid hr2
  have hml : m ≤ 9223372036854775807 := by have := hr.1; have := hr.2.1; unfold maxLen at this; omega
  have hml2 : m2 ≤ 9223372036854775807 := by have := hr2.1; have := hr2.2.1; unfold maxLen at this; omega
  clear hm hm2 hr hr2
  by_cases hmm : m = m2
  · subst hmm
    go_enter Try.func14, Try.ntmps14
    go_wp2_with fail
    go_loopw [5] (fun i wr => ∃ (q : Nat), q ≤ m ∧ i = .int .i64 q ∧ Hid (Below w.heap.size w wr) ∧ Hid (L.take q = M.take q)) (fun i _ => m - (intOf i).toNat)
    case atStart => exact ⟨0, by omega, rfl, Lib.hid (Below.refl _ _), Lib.hid rfl⟩
    case round =>
      obtain ⟨q, hq, rfl, HB, HTk⟩ := hrel
      by_cases h1 : q < m
      · obtain ⟨x, hx⟩ : ∃ x, L[q]? = some x := ⟨_, List.getElem?_eq_getElem (by rw [HL.out]; exact h1)⟩
        obtain ⟨y, hy⟩ : ∃ y, M[q]? = some y := ⟨_, List.getElem?_eq_getElem (by rw [HM.out]; exact h1)⟩
        have HBD : Hid (Below w.heap.size w wr.drew) := Lib.hid (below_draws HB.out 1)
        obtain ⟨ad, hA, k1⟩ := (HR.out.keep HBD.out).at_ hx
        obtain ⟨ad2, hA2, k2⟩ := (HR2.out.keep HBD.out).at_ hy
        subst hA hA2
        have SR : Hid (wr.drew.cell? (ad.add q) = some (.int .i64 x) ∧ wr.drew.cell? (ad2.add q) = some (.int .i64 y) ∧ True) := Lib.hid ⟨k1, k2, trivial⟩
        have HX := Lib.hid hx
        have HY := Lib.hid hy
        clear k1 k2 hx hy
        by_cases hxy : x = y
        · have HE : Hid (L.take (q + 1) = M.take (q + 1)) := by
            rw [Hid, List.take_add_one, List.take_add_one, HX.out, HY.out, HTk.out, hxy]
          subst hxy
          go_upto_region 6 with (fail)
          refine wp_region_held_drew (S := fun w' => Hid (w'.cell? (ad.add q) = some (.int .i64 x) ∧ w'.cell? (ad2.add q) = some (.int .i64 x) ∧ True)) (by kernel_rfl) (SR) (fun hHeld => ?_)
          refine wpAnyH_take (i := 0) (v := ?_) rfl (by kernel_rfl) (by kernel_rfl) (by kernel_rfl) (fun _ _ _ h => h) (Or.inl ⟨by rfl, ?_⟩) (by assumption) ?_
          rotate_left 1
          · intro w _; go_simp; try with_reducible rfl
          try simp only [Act.put, List.getElem_toArray, List.getElem_cons_zero, List.getElem_cons_succ, List.setIfInBounds_toArray, List.set_cons_zero, List.set_cons_succ]
          refine wpAnyH_take (i := 1) (v := ?_) rfl (by kernel_rfl) (by kernel_rfl) (by kernel_rfl) (fun _ _ _ h => h) (Or.inl ⟨by rfl, ?_⟩) (by assumption) ?_
          rotate_left 1
          · intro w _; go_simp; try with_reducible rfl
          try simp only [Act.put, List.getElem_toArray, List.getElem_cons_zero, List.getElem_cons_succ, List.setIfInBounds_toArray, List.set_cons_zero, List.set_cons_succ]
          refine wpAnyH_take (i := 2) (v := ?_) rfl (by kernel_rfl) (by kernel_rfl) (by kernel_rfl) (fun _ _ _ h => h) (Or.inl ⟨by rfl, ?_⟩) (by assumption) ?_
          rotate_left 1
          · intro w _; go_simp; try with_reducible rfl
          try simp only [Act.put, List.getElem_toArray, List.getElem_cons_zero, List.getElem_cons_succ, List.setIfInBounds_toArray, List.set_cons_zero, List.set_cons_succ]
          refine wpAnyH_take (i := 3) (v := ?_) rfl (by kernel_rfl) (by kernel_rfl) (by kernel_rfl) (fun _ _ _ h => h) (Or.inl ⟨by rfl, ?_⟩) (by assumption) ?_
          rotate_left 1
          · intro w hSw; (try dsimp only at hSw); obtain ⟨s0, s1, -⟩ := hSw.out; go_simp; try with_reducible rfl
          try simp only [Act.put, List.getElem_toArray, List.getElem_cons_zero, List.getElem_cons_succ, List.setIfInBounds_toArray, List.set_cons_zero, List.set_cons_succ]
          refine wpAnyH_take (i := 4) (v := ?_) rfl (by kernel_rfl) (by kernel_rfl) (by kernel_rfl) (fun _ _ _ h => h) (Or.inl ⟨by rfl, ?_⟩) (by assumption) ?_
          rotate_left 1
          · intro w _; go_simp; try with_reducible rfl
          try simp only [Act.put, List.getElem_toArray, List.getElem_cons_zero, List.getElem_cons_succ, List.setIfInBounds_toArray, List.set_cons_zero, List.set_cons_succ]
          refine wpAnyH_take (i := 5) (v := ?_) rfl (by kernel_rfl) (by kernel_rfl) (by kernel_rfl) (fun _ _ _ h => h) (Or.inl ⟨by rfl, ?_⟩) (by assumption) ?_
          rotate_left 1
          · intro w _; go_simp; try with_reducible rfl
          try simp only [Act.put, List.getElem_toArray, List.getElem_cons_zero, List.getElem_cons_succ, List.setIfInBounds_toArray, List.set_cons_zero, List.set_cons_succ]
          refine wpAnyH_take (i := 6) (v := ?_) rfl (by kernel_rfl) (by kernel_rfl) (by kernel_rfl) (fun _ _ _ h => h) (Or.inl ⟨by rfl, ?_⟩) (by assumption) ?_
          rotate_left 1
          · intro w _; go_simp; try with_reducible rfl
          try simp only [Act.put, List.getElem_toArray, List.getElem_cons_zero, List.getElem_cons_succ, List.setIfInBounds_toArray, List.set_cons_zero, List.set_cons_succ]
          refine wpAnyH_take (i := 7) (v := ?_) rfl (by kernel_rfl) (by kernel_rfl) (by kernel_rfl) (fun _ _ _ h => h) (Or.inl ⟨by rfl, ?_⟩) (by assumption) ?_
          rotate_left 1
          · intro w hSw; (try dsimp only at hSw); obtain ⟨s0, s1, -⟩ := hSw.out; go_simp; try with_reducible rfl
          try simp only [Act.put, List.getElem_toArray, List.getElem_cons_zero, List.getElem_cons_succ, List.setIfInBounds_toArray, List.set_cons_zero, List.set_cons_succ]
          refine wpAnyH_take (i := 8) (v := ?_) rfl (by kernel_rfl) (by kernel_rfl) (by kernel_rfl) (fun _ _ _ h => h) (Or.inl ⟨by rfl, ?_⟩) (by assumption) ?_
          rotate_left 1
          · intro w _; go_simp; try with_reducible rfl
          try simp only [Act.put, List.getElem_toArray, List.getElem_cons_zero, List.getElem_cons_succ, List.setIfInBounds_toArray, List.set_cons_zero, List.set_cons_succ]
          refine wpAnyH_done (by kernel_rfl) ?_ _
          clear hHeld
          go_wp2_with fail
          go_roundw
          case rel => exact ⟨q + 1, by omega, by go_num, HBD, HE⟩
          case measure => simp [intOf]; omega
        · have HNE : Hid (decide (L = M) = false) := Lib.hid (decide_eq_false (fun h => hxy (by have a := HX.out; rw [h, HY.out] at a; injection a with a; exact a.symm)))
          have hne : (x != y) = true := by simpa using hxy
          go_upto_region 6 with (fail)
          refine wp_region_held_drew (S := fun w' => Hid (w'.cell? (ad.add q) = some (.int .i64 x) ∧ w'.cell? (ad2.add q) = some (.int .i64 y) ∧ True)) (by kernel_rfl) (SR) (fun hHeld => ?_)
          refine wpAnyH_take (i := 0) (v := ?_) rfl (by kernel_rfl) (by kernel_rfl) (by kernel_rfl) (fun _ _ _ h => h) (Or.inl ⟨by rfl, ?_⟩) (by assumption) ?_
          rotate_left 1
          · intro w _; go_simp; try with_reducible rfl
          try simp only [Act.put, List.getElem_toArray, List.getElem_cons_zero, List.getElem_cons_succ, List.setIfInBounds_toArray, List.set_cons_zero, List.set_cons_succ]
          refine wpAnyH_take (i := 1) (v := ?_) rfl (by kernel_rfl) (by kernel_rfl) (by kernel_rfl) (fun _ _ _ h => h) (Or.inl ⟨by rfl, ?_⟩) (by assumption) ?_
          rotate_left 1
          · intro w _; go_simp; try with_reducible rfl
          try simp only [Act.put, List.getElem_toArray, List.getElem_cons_zero, List.getElem_cons_succ, List.setIfInBounds_toArray, List.set_cons_zero, List.set_cons_succ]
          refine wpAnyH_take (i := 2) (v := ?_) rfl (by kernel_rfl) (by kernel_rfl) (by kernel_rfl) (fun _ _ _ h => h) (Or.inl ⟨by rfl, ?_⟩) (by assumption) ?_
          rotate_left 1
          · intro w _; go_simp; try with_reducible rfl
          try simp only [Act.put, List.getElem_toArray, List.getElem_cons_zero, List.getElem_cons_succ, List.setIfInBounds_toArray, List.set_cons_zero, List.set_cons_succ]
          refine wpAnyH_take (i := 3) (v := ?_) rfl (by kernel_rfl) (by kernel_rfl) (by kernel_rfl) (fun _ _ _ h => h) (Or.inl ⟨by rfl, ?_⟩) (by assumption) ?_
          rotate_left 1
          · intro w hSw; (try dsimp only at hSw); obtain ⟨s0, s1, -⟩ := hSw.out; go_simp; try with_reducible rfl
          try simp only [Act.put, List.getElem_toArray, List.getElem_cons_zero, List.getElem_cons_succ, List.setIfInBounds_toArray, List.set_cons_zero, List.set_cons_succ]
          refine wpAnyH_take (i := 4) (v := ?_) rfl (by kernel_rfl) (by kernel_rfl) (by kernel_rfl) (fun _ _ _ h => h) (Or.inl ⟨by rfl, ?_⟩) (by assumption) ?_
          rotate_left 1
          · intro w _; go_simp; try with_reducible rfl
          try simp only [Act.put, List.getElem_toArray, List.getElem_cons_zero, List.getElem_cons_succ, List.setIfInBounds_toArray, List.set_cons_zero, List.set_cons_succ]
          refine wpAnyH_take (i := 5) (v := ?_) rfl (by kernel_rfl) (by kernel_rfl) (by kernel_rfl) (fun _ _ _ h => h) (Or.inl ⟨by rfl, ?_⟩) (by assumption) ?_
          rotate_left 1
          · intro w _; go_simp; try with_reducible rfl
          try simp only [Act.put, List.getElem_toArray, List.getElem_cons_zero, List.getElem_cons_succ, List.setIfInBounds_toArray, List.set_cons_zero, List.set_cons_succ]
          refine wpAnyH_take (i := 6) (v := ?_) rfl (by kernel_rfl) (by kernel_rfl) (by kernel_rfl) (fun _ _ _ h => h) (Or.inl ⟨by rfl, ?_⟩) (by assumption) ?_
          rotate_left 1
          · intro w _; go_simp; try with_reducible rfl
          try simp only [Act.put, List.getElem_toArray, List.getElem_cons_zero, List.getElem_cons_succ, List.setIfInBounds_toArray, List.set_cons_zero, List.set_cons_succ]
          refine wpAnyH_take (i := 7) (v := ?_) rfl (by kernel_rfl) (by kernel_rfl) (by kernel_rfl) (fun _ _ _ h => h) (Or.inl ⟨by rfl, ?_⟩) (by assumption) ?_
          rotate_left 1
          · intro w hSw; (try dsimp only at hSw); obtain ⟨s0, s1, -⟩ := hSw.out; go_simp; try with_reducible rfl
          try simp only [Act.put, List.getElem_toArray, List.getElem_cons_zero, List.getElem_cons_succ, List.setIfInBounds_toArray, List.set_cons_zero, List.set_cons_succ]
          refine wpAnyH_take (i := 8) (v := ?_) rfl (by kernel_rfl) (by kernel_rfl) (by kernel_rfl) (fun _ _ _ h => h) (Or.inl ⟨by rfl, ?_⟩) (by assumption) ?_
          rotate_left 1
          · intro w _; go_simp; try with_reducible rfl
          try simp only [Act.put, List.getElem_toArray, List.getElem_cons_zero, List.getElem_cons_succ, List.setIfInBounds_toArray, List.set_cons_zero, List.set_cons_succ]
          refine wpAnyH_done (by kernel_rfl) ?_ _
          clear hHeld
          go_wp2_with fail
          go_ret
          exact ⟨by rw [HNE.out]; rfl, HBD.out⟩
      · obtain rfl : q = m := by omega
        have HE : Hid (decide (L = M) = true) := Lib.hid (decide_eq_true (by
          have h := HTk.out
          rwa [List.take_of_length_le (by rw [HL.out]; exact Nat.le_refl _), List.take_of_length_le (by rw [HM.out]; exact Nat.le_refl _)] at h))
        go_wp2_with fail
        go_ret
        exact ⟨by rw [HE.out]; rfl, HB.out⟩
  · have HNE : Hid (decide (L = M) = false) := Lib.hid (decide_eq_false (fun h => hmm (by rw [← HL.out, ← HM.out, h])))
    have hne : (m != m2) = true := by simpa using hmm
    go_enter Try.func14, Try.ntmps14
    go_wp2_with fail
    go_ret
    exact ⟨by rw [HNE.out]; rfl, Below.refl _ _⟩
end Go.Proofs.Ytfchdggefedgoaa
