/-
  Layer 16's law: does.
-/
import Derived.Test.YtkifapnmojfjoaaUg
namespace Go.Proofs.Ytkifapnmojfjoaa
open Go.RowKit
set_option maxRecDepth 100000
set_option linter.unusedSimpArgs false
set_option linter.unusedVariables false

theorem rset_up (X : Nat → Prop) (B : Nat) (f : Fm) (i v0 v1 v2 : Int) (w : World) (h : Rf16 X w B f) (hv : VlOk (v0, v1, v2)) :
    Calls Try.prog 26 #[.pointer (some ⟨B, 0, none⟩), .int .i64 i, .agg #[.int .u8 v0, .int .i64 v1, .int .i64 v2]] w fun e w' => e = .returned (.bool (sB16 f i (v0, v1, v2))) ∧ ∃ X', Rf16 X' w' B (sF16 f i (v0, v1, v2)) ∧ Fr11 X w w' ∧ ∀ j, X' j → X j ∨ w.heap.size ≤ j :=
  (rset_v X B f i v0 v1 v2 w h hv).mono fun e w' h => ⟨h.1, X, h.2.1, h.2.2, fun _ => .inl⟩
set_option maxHeartbeats 8000000 in
theorem does16_v (K : KF16) (X Y : Nat → Prop) (B B2 : Nat) (f : Fm) (k i n v0 v1 v2 : Int) (w0 w : World) (hT : Two15 w0 w (tK16 K X B f) (tQ16 Y B2 f)) (hq9 : f.q ≤ 90000) (hok : Ok16 ⟨k, i, n, (v0, v1, v2)⟩) :
    Calls Try.prog 9 #[.pointer (some ⟨B, 0, none⟩), .pointer (some ⟨B2, 0, none⟩), .agg (ac16 k i n v0 v1 v2)] w fun e w' => e = .returned (.bool true) ∧ ∃ X' Y' f', Two15 w0 w' (tK16 K X' B f') (tQ16 Y' B2 f') ∧ f'.q ≤ f.q + 1 := by
  have HT := Lib.hid hT
  have HOK := Lib.hid hok
  have hk0 : 0 ≤ k := hok.1.1
  have hk1 : k < 256 := hok.1.2
  clear hT hok
  unfold ac16
  go_enter Try.func9, Try.ntmps9
  go_upto_region 1 with (fail)
  have T2 := Lib.hid (HT.out.keep ((Below.refl _ w).alloc (Nat.le_refl _) (.cells (ac16 k i n v0 v1 v2) 36)))
  have HB2 := Lib.hid (World.alloc_heap_new w (.cells (ac16 k i n v0 v1 v2) 36))
  have HPX : Hid (¬ X w.heap.size) := Lib.hid (fun h => Nat.lt_irrefl _ ((tK16 K X B f).lt _ HT.out.s _ h))
  have HPY : Hid (¬ Y w.heap.size) := Lib.hid (fun h => Nat.lt_irrefl _ ((tQ16 Y B2 f).lt _ HT.out.t _ h))
  change Code.wp _ _ _ _ (w.alloc (.cells (ac16 k i n v0 v1 v2) 36))
  generalize (w.alloc (.cells (ac16 k i n v0 v1 v2) 36)) = w2 at T2 HB2 ⊢
  generalize (w.heap.size : Nat) = P at HB2 HPX HPY ⊢
  clear HT
  obtain ⟨b0, b1, b2, b3, b4, b5⟩ := abx16 HB2.out
  have hq4 : 0 ≤ k.tmod 7 ∧ k.tmod 7 < 7 := by rw [Int.tmod_eq_emod_of_nonneg hk0]; omega
  by_cases q0 : k.tmod 7 = 0
  · clear hq4
    obtain ⟨⟨g0, g1, g2⟩, hg⟩ : ∃ x, gV16 f i = x := ⟨_, rfl⟩
    obtain ⟨gb, hgb⟩ : ∃ x, gB16 f i = x := ⟨_, rfl⟩
    have M1 := Lib.hid (K.get X B f i w2 T2.out.s)
    rw [hg, hgb] at M1
    unfold va16 at M1
    dsimp only at M1
    have qe := eq_val 9998 g0 g1 g2 g0 g1 g2 true (by simp)
    go_wp2_with fail
    refine M1.out.mono ?_
    rintro e w3 ⟨rfl, hb⟩
    have T3 := Lib.hid (T2.out.keep hb)
    have HB3 := Lib.hid ((hb.block P (Array.getElem?_eq_some_iff.1 HB2.out).1).trans HB2.out)
    clear hb M1 b0 b1 b2 b3 b4 b5
    go_upto_region 7 with (fail)
    have T4 := Lib.hid (T3.out.keep ((Below.refl _ w3).alloc (Nat.le_refl _) (.cells #[.int .u8 g0, .int .i64 g1, .int .i64 g2] 33)))
    have HB4 : Hid ((w3.alloc (.cells #[.int .u8 g0, .int .i64 g1, .int .i64 g2] 33)).heap[P]? = _) := Lib.hid ((Below.heap_alloc _ _ _ (Array.getElem?_eq_some_iff.1 HB3.out).1).trans HB3.out)
    have HV4 := Lib.hid (World.alloc_heap_new w3 (.cells #[.int .u8 g0, .int .i64 g1, .int .i64 g2] 33))
    have HY4 : Hid (¬ Y w3.heap.size) := Lib.hid (fun h => Nat.lt_irrefl _ ((tQ16 Y B2 f).lt _ T3.out.t _ h))
    generalize (w3.alloc (.cells #[.int .u8 g0, .int .i64 g1, .int .i64 g2] 33)) = w4 at T4 HB4 HV4 ⊢
    generalize (w3.heap.size : Nat) = P3 at HV4 HY4 ⊢
    clear T3 HB3
    obtain ⟨b0, b1, b2, b3, b4, b5⟩ := abx16 HB4.out
    have M2 := Lib.hid (rget_v Y B2 f i w4 T4.out.t)
    rw [hg, hgb] at M2
    unfold va16 at M2
    dsimp only at M2
    clear hg hgb
    go_wp2_with fail
    refine M2.out.mono ?_
    rintro e w5 ⟨rfl, hb⟩
    have T5 := Lib.hid (T4.out.keep hb)
    have hv5 := (hb.block P3 (Array.getElem?_eq_some_iff.1 HV4.out).1).trans HV4.out
    have HV5 := Lib.hid hv5
    clear hb M2 b0 b1 b2 b3 b4 b5
    have hl5 : P3 < w5.heap.size := (Array.getElem?_eq_some_iff.1 hv5).1
    have d0 : w5.cell? ⟨P3, 0, none⟩ = some (.int .u8 g0) := by simp [World.cell?, hv5]
    have d1 : w5.cell? ⟨P3, 1, none⟩ = some (.int .i64 g1) := by simp [World.cell?, hv5]
    have d2 : w5.cell? ⟨P3, 2, none⟩ = some (.int .i64 g2) := by simp [World.cell?, hv5]
    clear hv5
    have T6 := Lib.hid (T5.out.keep ((Below.refl _ w5).alloc (Nat.le_refl _) (.cells #[.int .u8 g0, .int .i64 g1, .int .i64 g2] 33)))
    go_wp2_with fail
    go_ret
    exact ⟨rfl, X, Y, f, T6.out, by omega⟩
  · by_cases q1 : k.tmod 7 = 1
    · clear hq4 q0
      go_upto_region 10 with (fail)
      have TD := Lib.hid (T2.out.keep (below_draws (Below.refl w2.heap.size w2) 1))
      have HBD : Hid (w2.drew.heap[P]? = some (.cells (ac16 k i n v0 v1 v2) 36 (0, 0))) := HB2
      change Hid (Two15 w0 w2.drew _ _) at TD
      clear b0 b1 b2 b3 b4 b5
      have M1 := Lib.hid (K.set X B f i v0 v1 v2 _ TD.out.s HOK.out.2.2.2)
      refine wp_region_held_drew (S := fun w' => w'.heap[P]? = some (.cells (ac16 k i n v0 v1 v2) 36 (0, 0))) (by kernel_rfl) (HBD.out) (fun hHeld => ?_)
      refine wpAnyH_take (i := 0) (v := ?_) rfl (by kernel_rfl) (by kernel_rfl) (by kernel_rfl) (fun _ _ _ h => h) (Or.inl ⟨by rfl, ?_⟩) (by assumption) ?_
      rotate_left 1
      · intro w _; go_simp; try with_reducible rfl
      try simp only [Act.put, List.getElem_toArray, List.getElem_cons_zero, List.getElem_cons_succ, List.setIfInBounds_toArray, List.set_cons_zero, List.set_cons_succ]
      refine wpAnyH_take (i := 1) (v := ?_) rfl (by kernel_rfl) (by kernel_rfl) (by kernel_rfl) (fun _ _ _ h => h) (Or.inl ⟨by rfl, ?_⟩) (by assumption) ?_
      rotate_left 1
      · intro w _; go_simp; try with_reducible rfl
      try simp only [Act.put, List.getElem_toArray, List.getElem_cons_zero, List.getElem_cons_succ, List.setIfInBounds_toArray, List.set_cons_zero, List.set_cons_succ]
      refine wpAnyH_take (i := 2) (v := ?_) rfl (by kernel_rfl) (by kernel_rfl) (by kernel_rfl) (fun _ _ _ h => h) (Or.inl ⟨by rfl, ?_⟩) (by assumption) ?_
      rotate_left 1
      · intro w hSw; (try dsimp only at hSw); obtain ⟨-, s1, s2, s3, s4, s5⟩ := abx16 hSw; go_simp; try with_reducible rfl
      try simp only [Act.put, List.getElem_toArray, List.getElem_cons_zero, List.getElem_cons_succ, List.setIfInBounds_toArray, List.set_cons_zero, List.set_cons_succ]
      refine wpAnyH_take (i := 3) (v := ?_) rfl (by kernel_rfl) (by kernel_rfl) (by kernel_rfl) (fun _ _ _ h => h) (Or.inl ⟨by rfl, ?_⟩) (by assumption) ?_
      rotate_left 1
      · intro w _; go_simp; try with_reducible rfl
      try simp only [Act.put, List.getElem_toArray, List.getElem_cons_zero, List.getElem_cons_succ, List.setIfInBounds_toArray, List.set_cons_zero, List.set_cons_succ]
      refine wpAnyH_take (i := 4) (v := ?_) rfl (by kernel_rfl) (by kernel_rfl) (by kernel_rfl) (fun _ _ _ h => h) (Or.inl ⟨by rfl, ?_⟩) (by assumption) ?_
      rotate_left 1
      · intro w hSw; (try dsimp only at hSw); obtain ⟨-, s1, s2, s3, s4, s5⟩ := abx16 hSw; go_simp; try with_reducible rfl
      try simp only [Act.put, List.getElem_toArray, List.getElem_cons_zero, List.getElem_cons_succ, List.setIfInBounds_toArray, List.set_cons_zero, List.set_cons_succ]
      refine wpAnyH_take (i := 6) (v := ?_) rfl (by kernel_rfl) (by kernel_rfl) (by kernel_rfl) (fun _ _ _ h => h) (Or.inl ⟨by rfl, ?_⟩) (by assumption) ?_
      rotate_left 1
      · intro w _; go_simp; try with_reducible rfl
      try simp only [Act.put, List.getElem_toArray, List.getElem_cons_zero, List.getElem_cons_succ, List.setIfInBounds_toArray, List.set_cons_zero, List.set_cons_succ]
      refine wpAnyH_take (i := 7) (v := ?_) rfl (by kernel_rfl) (by kernel_rfl) (by kernel_rfl) (fun _ _ _ h => h) (Or.inl ⟨by rfl, ?_⟩) (by assumption) ?_
      rotate_left 1
      · intro w _; go_simp; try with_reducible rfl
      try simp only [Act.put, List.getElem_toArray, List.getElem_cons_zero, List.getElem_cons_succ, List.setIfInBounds_toArray, List.set_cons_zero, List.set_cons_succ]
      refine wpAnyH_take (i := 8) (v := ?_) rfl (by kernel_rfl) (by kernel_rfl) (by kernel_rfl) (fun _ _ _ h => h) (Or.inl ⟨by rfl, ?_⟩) (by assumption) ?_
      rotate_left 1
      · intro w hSw; (try dsimp only at hSw); obtain ⟨-, s1, s2, s3, s4, s5⟩ := abx16 hSw; go_simp; try with_reducible rfl
      try simp only [Act.put, List.getElem_toArray, List.getElem_cons_zero, List.getElem_cons_succ, List.setIfInBounds_toArray, List.set_cons_zero, List.set_cons_succ]
      refine wpAnyH_take (i := 9) (v := ?_) rfl (by kernel_rfl) (by kernel_rfl) (by kernel_rfl) (fun _ _ _ h => h) (Or.inl ⟨by rfl, ?_⟩) (by assumption) ?_
      rotate_left 1
      · intro w _; go_simp; try with_reducible rfl
      try simp only [Act.put, List.getElem_toArray, List.getElem_cons_zero, List.getElem_cons_succ, List.setIfInBounds_toArray, List.set_cons_zero, List.set_cons_succ]
      refine wpAnyH_take (i := 10) (v := ?_) rfl (by kernel_rfl) (by kernel_rfl) (by kernel_rfl) (fun _ _ _ h => h) (Or.inl ⟨by rfl, ?_⟩) (by assumption) ?_
      rotate_left 1
      · intro w hSw; (try dsimp only at hSw); obtain ⟨-, s1, s2, s3, s4, s5⟩ := abx16 hSw; go_simp; try with_reducible rfl
      try simp only [Act.put, List.getElem_toArray, List.getElem_cons_zero, List.getElem_cons_succ, List.setIfInBounds_toArray, List.set_cons_zero, List.set_cons_succ]
      refine wpAnyH_ready (rs := [5]) (by kernel_rfl) (by simp) ?_
      refine AllReadyH.cons rfl (fun K hK => ?_) AllReadyH.nil
      go_simp
      refine M1.out.mono ?_
      rintro e w3 ⟨rfl, hu⟩
      obtain ⟨X1, ht, hf, hx⟩ := TD.out.leftU hu
      have T3 := Lib.hid ht
      have HB3 := Lib.hid ((hf.block P (Array.getElem?_eq_some_iff.1 HBD.out).1 HPX.out).trans HBD.out)
      clear hu ht hf hx
      go_wp2_with fail
      refine hK.out _ _ (HB3.out) (fun hHeld => ?_)
      clear hK K
      try simp only [Act.put, List.getElem_toArray, List.getElem_cons_zero, List.getElem_cons_succ, List.setIfInBounds_toArray, List.set_cons_zero, List.set_cons_succ]
      refine wpAnyH_ready (rs := [11]) (by kernel_rfl) (by simp) ?_
      refine AllReadyH.cons rfl (fun K hK => ?_) AllReadyH.nil
      go_simp
      have M2 := Lib.hid (rset_up Y B2 f i v0 v1 v2 _ T3.out.t HOK.out.2.2.2)
      refine M2.out.mono ?_
      rintro e w4 ⟨rfl, hu⟩
      obtain ⟨Y1, ht, hf, hx⟩ := T3.out.rightU hu
      have T4 := Lib.hid ht
      have HB4 := Lib.hid ((hf.block P (Array.getElem?_eq_some_iff.1 HB3.out).1 HPY.out).trans HB3.out)
      clear hu ht hf hx
      go_wp2_with fail
      refine hK.out _ _ (HB4.out) (fun hHeld => ?_)
      clear hK K
      try simp only [Act.put, List.getElem_toArray, List.getElem_cons_zero, List.getElem_cons_succ, List.setIfInBounds_toArray, List.set_cons_zero, List.set_cons_succ]
      refine wpAnyH_take (i := 12) (v := ?_) rfl (by kernel_rfl) (by kernel_rfl) (by kernel_rfl) (fun _ _ _ h => h) (Or.inl ⟨by rfl, ?_⟩) (by assumption) ?_
      rotate_left 1
      · intro w _; go_simp; try with_reducible rfl
      try simp only [Act.put, List.getElem_toArray, List.getElem_cons_zero, List.getElem_cons_succ, List.setIfInBounds_toArray, List.set_cons_zero, List.set_cons_succ]
      refine wpAnyH_take (i := 13) (v := ?_) rfl (by kernel_rfl) (by kernel_rfl) (by kernel_rfl) (fun _ _ _ h => h) (Or.inl ⟨by rfl, ?_⟩) (by assumption) ?_
      rotate_left 1
      · intro w _; go_simp; try with_reducible rfl
      try simp only [Act.put, List.getElem_toArray, List.getElem_cons_zero, List.getElem_cons_succ, List.setIfInBounds_toArray, List.set_cons_zero, List.set_cons_succ]
      refine wpAnyH_done (by kernel_rfl) ?_ _
      clear hHeld

      clear TD HBD M1 M2 T3 HB3 HB4
      go_wp2_with fail
      go_ret
      exact ⟨rfl, X1, Y1, sF16 f i (v0, v1, v2), T4.out, by rw [q_s16]; omega⟩
    · by_cases q2 : k.tmod 7 = 2
      · clear hq4 q0 q1
        go_upto_region 13 with (fail)
        have TD := Lib.hid (T2.out.keep (below_draws (Below.refl w2.heap.size w2) 1))
        have HBD : Hid (w2.drew.heap[P]? = some (.cells (ac16 k i n v0 v1 v2) 36 (0, 0))) := HB2
        change Hid (Two15 w0 w2.drew _ _) at TD
        clear b0 b1 b2 b3 b4 b5
        have M1 := Lib.hid (K.push X B f v0 v1 v2 _ TD.out.s HOK.out.2.2.2)
        refine wp_region_held_drew (S := fun w' => w'.heap[P]? = some (.cells (ac16 k i n v0 v1 v2) 36 (0, 0))) (by kernel_rfl) (HBD.out) (fun hHeld => ?_)
        refine wpAnyH_take (i := 0) (v := ?_) rfl (by kernel_rfl) (by kernel_rfl) (by kernel_rfl) (fun _ _ _ h => h) (Or.inl ⟨by rfl, ?_⟩) (by assumption) ?_
        rotate_left 1
        · intro w _; go_simp; try with_reducible rfl
        try simp only [Act.put, List.getElem_toArray, List.getElem_cons_zero, List.getElem_cons_succ, List.setIfInBounds_toArray, List.set_cons_zero, List.set_cons_succ]
        refine wpAnyH_take (i := 1) (v := ?_) rfl (by kernel_rfl) (by kernel_rfl) (by kernel_rfl) (fun _ _ _ h => h) (Or.inl ⟨by rfl, ?_⟩) (by assumption) ?_
        rotate_left 1
        · intro w _; go_simp; try with_reducible rfl
        try simp only [Act.put, List.getElem_toArray, List.getElem_cons_zero, List.getElem_cons_succ, List.setIfInBounds_toArray, List.set_cons_zero, List.set_cons_succ]
        refine wpAnyH_take (i := 2) (v := ?_) rfl (by kernel_rfl) (by kernel_rfl) (by kernel_rfl) (fun _ _ _ h => h) (Or.inl ⟨by rfl, ?_⟩) (by assumption) ?_
        rotate_left 1
        · intro w hSw; (try dsimp only at hSw); obtain ⟨-, s1, s2, s3, s4, s5⟩ := abx16 hSw; go_simp; try with_reducible rfl
        try simp only [Act.put, List.getElem_toArray, List.getElem_cons_zero, List.getElem_cons_succ, List.setIfInBounds_toArray, List.set_cons_zero, List.set_cons_succ]
        refine wpAnyH_take (i := 4) (v := ?_) rfl (by kernel_rfl) (by kernel_rfl) (by kernel_rfl) (fun _ _ _ h => h) (Or.inl ⟨by rfl, ?_⟩) (by assumption) ?_
        rotate_left 1
        · intro w _; go_simp; try with_reducible rfl
        try simp only [Act.put, List.getElem_toArray, List.getElem_cons_zero, List.getElem_cons_succ, List.setIfInBounds_toArray, List.set_cons_zero, List.set_cons_succ]
        refine wpAnyH_take (i := 5) (v := ?_) rfl (by kernel_rfl) (by kernel_rfl) (by kernel_rfl) (fun _ _ _ h => h) (Or.inl ⟨by rfl, ?_⟩) (by assumption) ?_
        rotate_left 1
        · intro w _; go_simp; try with_reducible rfl
        try simp only [Act.put, List.getElem_toArray, List.getElem_cons_zero, List.getElem_cons_succ, List.setIfInBounds_toArray, List.set_cons_zero, List.set_cons_succ]
        refine wpAnyH_take (i := 6) (v := ?_) rfl (by kernel_rfl) (by kernel_rfl) (by kernel_rfl) (fun _ _ _ h => h) (Or.inl ⟨by rfl, ?_⟩) (by assumption) ?_
        rotate_left 1
        · intro w hSw; (try dsimp only at hSw); obtain ⟨-, s1, s2, s3, s4, s5⟩ := abx16 hSw; go_simp; try with_reducible rfl
        try simp only [Act.put, List.getElem_toArray, List.getElem_cons_zero, List.getElem_cons_succ, List.setIfInBounds_toArray, List.set_cons_zero, List.set_cons_succ]
        refine wpAnyH_ready (rs := [3]) (by kernel_rfl) (by simp) ?_
        refine AllReadyH.cons rfl (fun K hK => ?_) AllReadyH.nil
        go_simp
        refine M1.out.mono ?_
        rintro e w3 ⟨rfl, hu⟩
        obtain ⟨X1, ht, hf, hx⟩ := TD.out.leftU hu
        have T3 := Lib.hid ht
        have HB3 := Lib.hid ((hf.block P (Array.getElem?_eq_some_iff.1 HBD.out).1 HPX.out).trans HBD.out)
        clear hu ht hf hx
        go_wp2_with fail
        refine hK.out _ _ (HB3.out) (fun hHeld => ?_)
        clear hK K
        try simp only [Act.put, List.getElem_toArray, List.getElem_cons_zero, List.getElem_cons_succ, List.setIfInBounds_toArray, List.set_cons_zero, List.set_cons_succ]
        refine wpAnyH_ready (rs := [7]) (by kernel_rfl) (by simp) ?_
        refine AllReadyH.cons rfl (fun K hK => ?_) AllReadyH.nil
        go_simp
        have M2 := Lib.hid (rpush_v Y B2 f v0 v1 v2 _ T3.out.t HOK.out.2.2.2)
        refine M2.out.mono ?_
        rintro e w4 ⟨rfl, hu⟩
        obtain ⟨Y1, ht, hf, hx⟩ := T3.out.rightU hu
        have T4 := Lib.hid ht
        have HB4 := Lib.hid ((hf.block P (Array.getElem?_eq_some_iff.1 HB3.out).1 HPY.out).trans HB3.out)
        clear hu ht hf hx
        go_wp2_with fail
        refine hK.out _ _ (HB4.out) (fun hHeld => ?_)
        clear hK K
        try simp only [Act.put, List.getElem_toArray, List.getElem_cons_zero, List.getElem_cons_succ, List.setIfInBounds_toArray, List.set_cons_zero, List.set_cons_succ]
        refine wpAnyH_take (i := 8) (v := ?_) rfl (by kernel_rfl) (by kernel_rfl) (by kernel_rfl) (fun _ _ _ h => h) (Or.inl ⟨by rfl, ?_⟩) (by assumption) ?_
        rotate_left 1
        · intro w _; go_simp; try with_reducible rfl
        try simp only [Act.put, List.getElem_toArray, List.getElem_cons_zero, List.getElem_cons_succ, List.setIfInBounds_toArray, List.set_cons_zero, List.set_cons_succ]
        refine wpAnyH_take (i := 9) (v := ?_) rfl (by kernel_rfl) (by kernel_rfl) (by kernel_rfl) (fun _ _ _ h => h) (Or.inl ⟨by rfl, ?_⟩) (by assumption) ?_
        rotate_left 1
        · intro w _; go_simp; try with_reducible rfl
        try simp only [Act.put, List.getElem_toArray, List.getElem_cons_zero, List.getElem_cons_succ, List.setIfInBounds_toArray, List.set_cons_zero, List.set_cons_succ]
        refine wpAnyH_done (by kernel_rfl) ?_ _
        clear hHeld

        clear TD HBD M1 M2 T3 HB3 HB4
        go_wp2_with fail
        go_ret
        exact ⟨rfl, X1, Y1, pF16 f (v0, v1, v2), T4.out, by rw [q_p16]; omega⟩
      · by_cases q3 : k.tmod 7 = 3
        · clear hq4 q0 q1 q2
          go_upto_region 13 with (fail)
          have TD := Lib.hid (T2.out.keep (below_draws (Below.refl w2.heap.size w2) 1))
          have HBD : Hid (w2.drew.heap[P]? = some (.cells (ac16 k i n v0 v1 v2) 36 (0, 0))) := HB2
          change Hid (Two15 w0 w2.drew _ _) at TD
          clear b0 b1 b2 b3 b4 b5
          have M1 := Lib.hid (K.push X B f v0 v1 v2 _ TD.out.s HOK.out.2.2.2)
          refine wp_region_held_drew (S := fun w' => w'.heap[P]? = some (.cells (ac16 k i n v0 v1 v2) 36 (0, 0))) (by kernel_rfl) (HBD.out) (fun hHeld => ?_)
          refine wpAnyH_take (i := 0) (v := ?_) rfl (by kernel_rfl) (by kernel_rfl) (by kernel_rfl) (fun _ _ _ h => h) (Or.inl ⟨by rfl, ?_⟩) (by assumption) ?_
          rotate_left 1
          · intro w _; go_simp; try with_reducible rfl
          try simp only [Act.put, List.getElem_toArray, List.getElem_cons_zero, List.getElem_cons_succ, List.setIfInBounds_toArray, List.set_cons_zero, List.set_cons_succ]
          refine wpAnyH_take (i := 1) (v := ?_) rfl (by kernel_rfl) (by kernel_rfl) (by kernel_rfl) (fun _ _ _ h => h) (Or.inl ⟨by rfl, ?_⟩) (by assumption) ?_
          rotate_left 1
          · intro w _; go_simp; try with_reducible rfl
          try simp only [Act.put, List.getElem_toArray, List.getElem_cons_zero, List.getElem_cons_succ, List.setIfInBounds_toArray, List.set_cons_zero, List.set_cons_succ]
          refine wpAnyH_take (i := 2) (v := ?_) rfl (by kernel_rfl) (by kernel_rfl) (by kernel_rfl) (fun _ _ _ h => h) (Or.inl ⟨by rfl, ?_⟩) (by assumption) ?_
          rotate_left 1
          · intro w hSw; (try dsimp only at hSw); obtain ⟨-, s1, s2, s3, s4, s5⟩ := abx16 hSw; go_simp; try with_reducible rfl
          try simp only [Act.put, List.getElem_toArray, List.getElem_cons_zero, List.getElem_cons_succ, List.setIfInBounds_toArray, List.set_cons_zero, List.set_cons_succ]
          refine wpAnyH_take (i := 4) (v := ?_) rfl (by kernel_rfl) (by kernel_rfl) (by kernel_rfl) (fun _ _ _ h => h) (Or.inl ⟨by rfl, ?_⟩) (by assumption) ?_
          rotate_left 1
          · intro w _; go_simp; try with_reducible rfl
          try simp only [Act.put, List.getElem_toArray, List.getElem_cons_zero, List.getElem_cons_succ, List.setIfInBounds_toArray, List.set_cons_zero, List.set_cons_succ]
          refine wpAnyH_take (i := 5) (v := ?_) rfl (by kernel_rfl) (by kernel_rfl) (by kernel_rfl) (fun _ _ _ h => h) (Or.inl ⟨by rfl, ?_⟩) (by assumption) ?_
          rotate_left 1
          · intro w _; go_simp; try with_reducible rfl
          try simp only [Act.put, List.getElem_toArray, List.getElem_cons_zero, List.getElem_cons_succ, List.setIfInBounds_toArray, List.set_cons_zero, List.set_cons_succ]
          refine wpAnyH_take (i := 6) (v := ?_) rfl (by kernel_rfl) (by kernel_rfl) (by kernel_rfl) (fun _ _ _ h => h) (Or.inl ⟨by rfl, ?_⟩) (by assumption) ?_
          rotate_left 1
          · intro w hSw; (try dsimp only at hSw); obtain ⟨-, s1, s2, s3, s4, s5⟩ := abx16 hSw; go_simp; try with_reducible rfl
          try simp only [Act.put, List.getElem_toArray, List.getElem_cons_zero, List.getElem_cons_succ, List.setIfInBounds_toArray, List.set_cons_zero, List.set_cons_succ]
          refine wpAnyH_ready (rs := [3]) (by kernel_rfl) (by simp) ?_
          refine AllReadyH.cons rfl (fun K hK => ?_) AllReadyH.nil
          go_simp
          refine M1.out.mono ?_
          rintro e w3 ⟨rfl, hu⟩
          obtain ⟨X1, ht, hf, hx⟩ := TD.out.leftU hu
          have T3 := Lib.hid ht
          have HB3 := Lib.hid ((hf.block P (Array.getElem?_eq_some_iff.1 HBD.out).1 HPX.out).trans HBD.out)
          clear hu ht hf hx
          go_wp2_with fail
          refine hK.out _ _ (HB3.out) (fun hHeld => ?_)
          clear hK K
          try simp only [Act.put, List.getElem_toArray, List.getElem_cons_zero, List.getElem_cons_succ, List.setIfInBounds_toArray, List.set_cons_zero, List.set_cons_succ]
          refine wpAnyH_ready (rs := [7]) (by kernel_rfl) (by simp) ?_
          refine AllReadyH.cons rfl (fun K hK => ?_) AllReadyH.nil
          go_simp
          have M2 := Lib.hid (rpush_v Y B2 f v0 v1 v2 _ T3.out.t HOK.out.2.2.2)
          refine M2.out.mono ?_
          rintro e w4 ⟨rfl, hu⟩
          obtain ⟨Y1, ht, hf, hx⟩ := T3.out.rightU hu
          have T4 := Lib.hid ht
          have HB4 := Lib.hid ((hf.block P (Array.getElem?_eq_some_iff.1 HB3.out).1 HPY.out).trans HB3.out)
          clear hu ht hf hx
          go_wp2_with fail
          refine hK.out _ _ (HB4.out) (fun hHeld => ?_)
          clear hK K
          try simp only [Act.put, List.getElem_toArray, List.getElem_cons_zero, List.getElem_cons_succ, List.setIfInBounds_toArray, List.set_cons_zero, List.set_cons_succ]
          refine wpAnyH_take (i := 8) (v := ?_) rfl (by kernel_rfl) (by kernel_rfl) (by kernel_rfl) (fun _ _ _ h => h) (Or.inl ⟨by rfl, ?_⟩) (by assumption) ?_
          rotate_left 1
          · intro w _; go_simp; try with_reducible rfl
          try simp only [Act.put, List.getElem_toArray, List.getElem_cons_zero, List.getElem_cons_succ, List.setIfInBounds_toArray, List.set_cons_zero, List.set_cons_succ]
          refine wpAnyH_take (i := 9) (v := ?_) rfl (by kernel_rfl) (by kernel_rfl) (by kernel_rfl) (fun _ _ _ h => h) (Or.inl ⟨by rfl, ?_⟩) (by assumption) ?_
          rotate_left 1
          · intro w _; go_simp; try with_reducible rfl
          try simp only [Act.put, List.getElem_toArray, List.getElem_cons_zero, List.getElem_cons_succ, List.setIfInBounds_toArray, List.set_cons_zero, List.set_cons_succ]
          refine wpAnyH_done (by kernel_rfl) ?_ _
          clear hHeld

          clear TD HBD M1 M2 T3 HB3 HB4
          go_wp2_with fail
          go_ret
          exact ⟨rfl, X1, Y1, pF16 f (v0, v1, v2), T4.out, by rw [q_p16]; omega⟩
        · by_cases q4 : k.tmod 7 = 4
          · clear hq4 q0 q1 q2 q3
            obtain ⟨⟨g0, g1, g2⟩, hg⟩ : ∃ x, oV16 f v0 = x := ⟨_, rfl⟩
            obtain ⟨gb, hgb⟩ : ∃ x, oB16 f v0 = x := ⟨_, rfl⟩
            have M1 := Lib.hid (K.pop X B f v0 w2 T2.out.s HOK.out.2.2.2.1.1 HOK.out.2.2.2.1.2)
            rw [hg, hgb] at M1
            unfold va16 at M1
            dsimp only at M1
            have qe := eq_val 9998 g0 g1 g2 g0 g1 g2 true (by simp)
            go_wp2_with fail
            refine M1.out.mono ?_
            rintro e w3 ⟨rfl, hu⟩
            obtain ⟨X1, ht, hf, hx⟩ := T2.out.leftU hu
            have T3 := Lib.hid ht
            have HB3 := Lib.hid ((hf.block P (Array.getElem?_eq_some_iff.1 HB2.out).1 HPX.out).trans HB2.out)
            clear hu ht hf hx M1 b0 b1 b2 b3 b4 b5
            go_upto_region 16 with (fail)
            have T4 := Lib.hid (T3.out.keep ((Below.refl _ w3).alloc (Nat.le_refl _) (.cells #[.int .u8 g0, .int .i64 g1, .int .i64 g2] 33)))
            have HB4 : Hid ((w3.alloc (.cells #[.int .u8 g0, .int .i64 g1, .int .i64 g2] 33)).heap[P]? = _) := Lib.hid ((Below.heap_alloc _ _ _ (Array.getElem?_eq_some_iff.1 HB3.out).1).trans HB3.out)
            have HV4 := Lib.hid (World.alloc_heap_new w3 (.cells #[.int .u8 g0, .int .i64 g1, .int .i64 g2] 33))
            have HY4 : Hid (¬ Y w3.heap.size) := Lib.hid (fun h => Nat.lt_irrefl _ ((tQ16 Y B2 f).lt _ T3.out.t _ h))
            generalize (w3.alloc (.cells #[.int .u8 g0, .int .i64 g1, .int .i64 g2] 33)) = w4 at T4 HB4 HV4 ⊢
            generalize (w3.heap.size : Nat) = P3 at HV4 HY4 ⊢
            clear T3 HB3
            obtain ⟨b0, b1, b2, b3, b4, b5⟩ := abx16 HB4.out
            have M2 := Lib.hid (rpop_v Y B2 f v0 w4 T4.out.t)
            rw [hg, hgb] at M2
            unfold va16 at M2
            dsimp only at M2
            clear hg hgb
            go_wp2_with fail
            refine M2.out.mono ?_
            rintro e w5 ⟨rfl, hu⟩
            obtain ⟨Y1, ht, hf, hx⟩ := T4.out.rightU hu
            have T5 := Lib.hid ht
            have hv5 := (hf.block P3 (Array.getElem?_eq_some_iff.1 HV4.out).1 HY4.out).trans HV4.out
            have HV5 := Lib.hid hv5
            clear hu ht hf hx M2 b0 b1 b2 b3 b4 b5
            have hl5 : P3 < w5.heap.size := (Array.getElem?_eq_some_iff.1 hv5).1
            have d0 : w5.cell? ⟨P3, 0, none⟩ = some (.int .u8 g0) := by simp [World.cell?, hv5]
            have d1 : w5.cell? ⟨P3, 1, none⟩ = some (.int .i64 g1) := by simp [World.cell?, hv5]
            have d2 : w5.cell? ⟨P3, 2, none⟩ = some (.int .i64 g2) := by simp [World.cell?, hv5]
            clear hv5
            have T6 := Lib.hid (T5.out.keep ((Below.refl _ w5).alloc (Nat.le_refl _) (.cells #[.int .u8 g0, .int .i64 g1, .int .i64 g2] 33)))
            go_wp2_with fail
            go_ret
            exact ⟨rfl, X1, Y1, oF16 f v0, T6.out, by rw [q_o16]; omega⟩
          · by_cases q5 : k.tmod 7 = 5
            · clear hq4 q0 q1 q2 q3 q4
              have M1 := Lib.hid (K.begin_ X B f i n w2 T2.out.s hq9 HOK.out.2.1 HOK.out.2.2.1.1 HOK.out.2.2.1.2)
              go_wp2_with fail
              refine M1.out.mono ?_
              rintro e w3 ⟨rfl, hu⟩
              obtain ⟨X1, ht, hf, hx⟩ := T2.out.leftU hu
              have T3 := Lib.hid ht
              have HB3 := Lib.hid ((hf.block P (Array.getElem?_eq_some_iff.1 HB2.out).1 HPX.out).trans HB2.out)
              have HPX1 : Hid (¬ X1 P) := Lib.hid (fun h => (hx P h).elim HPX.out (fun h => by have := (Array.getElem?_eq_some_iff.1 HB2.out).1; omega))
              clear hu ht hf hx M1 b0 b1 b2 b3 b4 b5
              obtain ⟨b0, b1, b2, b3, b4, b5⟩ := abx16 HB3.out
              have M2 := Lib.hid (rbegin_v Y B2 f i n w3 T3.out.t (by omega) HOK.out.2.2.1.2)
              go_wp2_with fail
              refine M2.out.mono ?_
              rintro e w4 ⟨rfl, hu⟩
              obtain ⟨Y1, ht, hf, hx⟩ := T3.out.rightU hu
              have T4 := Lib.hid ht
              have HB4 := Lib.hid ((hf.block P (Array.getElem?_eq_some_iff.1 HB3.out).1 HPY.out).trans HB3.out)
              clear hu ht hf hx M2 b0 b1 b2 b3 b4 b5
              obtain ⟨b0, b1, b2, b3, b4, b5⟩ := abx16 HB4.out
              have M3 := Lib.hid (K.go X1 B (bF16 f i n) n w4 T4.out.s)
              go_wp2_with fail
              refine M3.out.mono ?_
              rintro e w5 ⟨rfl, hu⟩
              obtain ⟨X2, ht, hf, hx⟩ := T4.out.leftU hu
              have T5 := Lib.hid ht
              have HB5 := Lib.hid ((hf.block P (Array.getElem?_eq_some_iff.1 HB4.out).1 HPX1.out).trans HB4.out)
              clear hu ht hf hx M3 b0 b1 b2 b3 b4 b5
              obtain ⟨b0, b1, b2, b3, b4, b5⟩ := abx16 HB5.out
              obtain ⟨p0, p1, hr, hf⟩ := rgo16 (T5.out.t : Rf16 Y1 w5 B2 (bF16 f i n)) n
              have T6 := Lib.hid (T5.out.right (T' := tQ16 Y1 B2 (goF16 (bF16 f i n) n)) hr hf fun _ => .inl)
              clear hr hf
              go_wp2_with fail
              go_ret
              exact ⟨rfl, X2, Y1, goF16 (bF16 f i n) n, T6.out, by show f.q + 1 ≤ f.q + 1; omega⟩
            · have q6 : k.tmod 7 = 6 := by omega
              clear hq4 q0 q1 q2 q3 q4 q5
              have M1 := Lib.hid (K.again X B f i w2 T2.out.s hq9 HOK.out.2.1)
              go_wp2_with fail
              refine M1.out.mono ?_
              rintro e w3 ⟨rfl, hu⟩
              obtain ⟨X1, ht, hf, hx⟩ := T2.out.leftU hu
              have T3 := Lib.hid ht
              have HB3 := Lib.hid ((hf.block P (Array.getElem?_eq_some_iff.1 HB2.out).1 HPX.out).trans HB2.out)
              clear hu ht hf hx M1 b0 b1 b2 b3 b4 b5
              obtain ⟨b0, b1, b2, b3, b4, b5⟩ := abx16 HB3.out
              have M2 := Lib.hid (ragain_v Y B2 f i w3 T3.out.t (by omega))
              go_wp2_with fail
              refine M2.out.mono ?_
              rintro e w4 ⟨rfl, hu⟩
              obtain ⟨Y1, ht, hf, hx⟩ := T3.out.rightU hu
              have T4 := Lib.hid ht
              clear hu ht hf hx M2 b0 b1 b2 b3 b4 b5
              go_wp2_with fail
              go_ret
              exact ⟨rfl, X1, Y1, aF16 f i, T4.out, by exact q_a16⟩
end Go.Proofs.Ytkifapnmojfjoaa
