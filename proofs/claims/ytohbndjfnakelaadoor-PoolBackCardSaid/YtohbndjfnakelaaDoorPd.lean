/-
  What the reference's Add answers: the values with one more (or as they were), in memory of their own.
-/
import Derived.Test.YtohbndjfnakelaaDoorPb
namespace Go.Proofs.YtohbndjfnakelaaDoor
open Go.RowKit
set_option maxRecDepth 100000
set_option linter.unusedSimpArgs false
set_option linter.unusedVariables false

/-- One more value: the values, where it stands, the error. -/
def adP (L : List Vlu) (x : Vlu) : List Vlu × Int × Int :=
  if poM L = true then (if fdK L x < L.length then (L, (fdK L x : Int), 0) else if poM (L ++ [x]) = true then (L ++ [x], (L.length : Int), 0) else ([], 0, 60)) else ([], 0, 60)
set_option maxHeartbeats 4000000 in
theorem r6add_v (A : Option Addr) (c m : Nat) (L : List Vlu) (k a b : Int) (w : World) (hr : Rv w A c L) (hm : L.length = m) (hx : VlOk (k, a, b)) : Calls Tryd.prog 9 #[.slice A m c, .agg #[.int .u8 k, .int .i64 a, .int .i64 b]] w fun e w' =>
    ∃ A' c', e = .returned (.tuple #[.slice A' (adP L (k, a, b)).1.length c', .int .i64 (adP L (k, a, b)).2.1, .int .i64 (adP L (k, a, b)).2.2]) ∧ w'.ownsRow w.heap.size 24 3 (.slice A' (adP L (k, a, b)).1.length c') (adP L (k, a, b)).1.length (cev (adP L (k, a, b)).1) ∧ Below w.heap.size w w' := by
  subst hm
  have hlen := hr.len
  have HOK := Lib.hid hr.1
  have S0 := Lib.hid (((Sx.start w).add (fW A c L) hr).mkV k a b)
  have D1 : Hid (poM L = false → adP L (k, a, b) = ([], 0, 60)) := fun h => by rw [adP, if_neg (by rw [h]; decide)]
  have D2 : Hid (poM L = true → fdK L (k, a, b) < L.length → adP L (k, a, b) = (L, (fdK L (k, a, b) : Int), 0)) := fun h h2 => by rw [adP, if_pos h, if_pos h2]
  have D3 : Hid (poM L = true → ¬ fdK L (k, a, b) < L.length → poM (L ++ [(k, a, b)]) = true → adP L (k, a, b) = (L ++ [(k, a, b)], (L.length : Int), 0)) := fun h h2 h3 => by rw [adP, if_pos h, if_neg h2, if_pos h3]
  have D4 : Hid (poM L = true → ¬ fdK L (k, a, b) < L.length → poM (L ++ [(k, a, b)]) = false → adP L (k, a, b) = ([], 0, 60)) := fun h h2 h3 => by rw [adP, if_pos h, if_neg h2, if_neg (by rw [h3]; decide)]
  generalize adP L (k, a, b) = R at *
  clear hr
  go_enter Tryd.func9, Tryd.ntmps9
  go_wp2_with fail
  generalize w.alloc (.cells #[.int .u8 k, .int .i64 a, .int .i64 b] 24) = w1 at S0 ⊢
  generalize hbk : w.heap.size = B at S0 ⊢
  refine (r6may_any A c _ L _ S0.out.2.2.1 rfl).mono ?_
  rintro e w2 ⟨rfl, hb2⟩
  have S1 := Lib.hid (S0.out.call hb2)
  clear hb2 S0
  cases hc : poM L with
  | false =>
    have HN := Lib.hid (D1.out hc)
    go_wp2_with fail
    go_ret3
    obtain rfl := HN.out
    exact ⟨none, 0, rfl, World.ownsRow_nil _ _ _ _, hbk ▸ S1.out.1⟩
  | true =>
    have HC := Lib.hid hc
    have hl2 := poM_le hc
    clear hc
    obtain ⟨-, ⟨z0, z1, z2, z3, -⟩, -⟩ := id S1.out
    go_wp2_with fail
    refine (r6find_any A c _ L k a b _ S1.out.2.2.1 rfl).mono ?_
    rintro e w2 ⟨rfl, hb2⟩
    have S2 := Lib.hid (S1.out.call hb2)
    clear hb2 S1 z0 z1 z2 z3
    by_cases hf : fdK L (k, a, b) < L.length
    · have HN := Lib.hid (D2.out HC.out hf)
      have HF : Hid (fdI L (k, a, b) = (fdK L (k, a, b) : Int)) := by rw [Hid, fdI, if_pos hf]
      rw [HF.out]
      generalize fdK L (k, a, b) = q at *
      go_wp2_with fail
      refine (r3copy_any A c L.length L _ S2.out.2.2.1 rfl (by omega)).mono ?_
      rintro e w3 ⟨A3, c3, rfl, ho3, hb3⟩
      have HO3 := Lib.hid (own_base ho3 S2.out.1.size)
      have HB3 := Lib.hid (below_on S2.out.1 hb3)
      clear ho3 hb3
      go_wp2_with fail
      go_ret3
      obtain rfl := HN.out
      exact ⟨A3, c3, rfl, hbk ▸ HO3.out, hbk ▸ HB3.out⟩
    · have HF : Hid (fdI L (k, a, b) = -1) := by rw [Hid, fdI, if_neg hf]
      rw [HF.out]
      go_upto_region 6 with (fail)
      refine wp_region_held_drew (S := fun w' => Hid (Below w2.heap.size w2 w')) (by kernel_rfl) (Lib.hid (below_draws (Below.refl _ _) 1)) (fun hHeld => ?_)
      refine wpAnyH_take (i := 0) (v := ?_) rfl (by kernel_rfl) (by kernel_rfl) (by kernel_rfl) (fun _ _ _ h => h) (Or.inl ⟨by rfl, ?_⟩) (by assumption) ?_
      rotate_left 1
      · intro w _; go_simp; try with_reducible rfl
      try simp only [Act.put, List.getElem_toArray, List.getElem_cons_zero, List.getElem_cons_succ, List.setIfInBounds_toArray, List.set_cons_zero, List.set_cons_succ]
      refine wpAnyH_take (i := 2) (v := ?_) rfl (by kernel_rfl) (by kernel_rfl) (by kernel_rfl) (fun _ _ _ h => h) (Or.inl ⟨by rfl, ?_⟩) (by assumption) ?_
      rotate_left 1
      · intro w hSw; (try dsimp only at hSw); obtain ⟨-, ⟨z0, z1, z2, z3, -⟩, -⟩ := S2.out.call hSw.out; go_simp; try with_reducible rfl
      try simp only [Act.put, List.getElem_toArray, List.getElem_cons_zero, List.getElem_cons_succ, List.setIfInBounds_toArray, List.set_cons_zero, List.set_cons_succ]
      refine wpAnyH_ready (rs := [1, 3]) (by kernel_rfl) (by simp) ?_
      refine AllReadyH.cons rfl (fun K hK => ?_) ?_
      · skip
        go_simp
        refine (r3copy_any A c L.length L _ (S2.out.call hHeld.out).2.2.1 rfl (by omega)).mono ?_
        rintro e wb ⟨Ab, cb, rfl, hob, hb⟩
        have O1 := Lib.hid hob
        clear hob
        go_wp2_with fail
        refine hK.out _ _ (Lib.hid (below_on hHeld.out hb)) (fun hHeld => ?_)
        clear hK K
        try simp only [Act.put, List.getElem_toArray, List.getElem_cons_zero, List.getElem_cons_succ, List.setIfInBounds_toArray, List.set_cons_zero, List.set_cons_succ]
        refine wpAnyH_ready (rs := [3]) (by kernel_rfl) (by simp) ?_
        refine AllReadyH.cons rfl (fun K hK => ?_) AllReadyH.nil
        go_simp
        have R2 := Lib.hid (rv_new wb (k, a, b) hx)
        have O2 := Lib.hid (own_below (own_base O1.out (show w2.heap.size ≤ _ from Nat.le_refl _)) (new1 (a := .cells #[.int .u8 k, .int .i64 a, .int .i64 b] 24)) (Nat.le_refl _))
        refine hK.out _ _ (Lib.hid (below_on hHeld.out new1)) (fun hHeld => ?_)
        clear hK K
        try simp only [Act.put, List.getElem_toArray, List.getElem_cons_zero, List.getElem_cons_succ, List.setIfInBounds_toArray, List.set_cons_zero, List.set_cons_succ]
        refine wpAnyH_ready (rs := [4]) (by kernel_rfl) (by simp) ?_
        refine AllReadyH.cons rfl (fun K hK => ?_) AllReadyH.nil
        refine step_append_rv rfl (.tmp 21) (.tmp 23) rfl w2.heap.size _ L.length L rfl O2.out _ 1 1 [(k, a, b)] rfl R2.out rfl (by omega) hHeld.out.size ?_
        intro A3 c3 w3 ho3 hg3 hb3
        have O3 := Lib.hid ho3
        clear ho3
        refine hK.out _ _ (Lib.hid (hHeld.out.trans hb3)) (fun hHeld => ?_)
        clear hK K
        try simp only [Act.put, List.getElem_toArray, List.getElem_cons_zero, List.getElem_cons_succ, List.setIfInBounds_toArray, List.set_cons_zero, List.set_cons_succ]
        refine wpAnyH_take (i := 5) (v := ?_) rfl (by kernel_rfl) (by kernel_rfl) (by kernel_rfl) (fun _ _ _ h => h) (Or.inl ⟨by rfl, ?_⟩) (by assumption) ?_
        rotate_left 1
        · intro w _; go_simp; try with_reducible rfl
        try simp only [Act.put, List.getElem_toArray, List.getElem_cons_zero, List.getElem_cons_succ, List.setIfInBounds_toArray, List.set_cons_zero, List.set_cons_succ]
        refine wpAnyH_done (by kernel_rfl) ?_ _
        have S3 := Lib.hid (S2.out.1.trans (hHeld.out.mono S2.out.1.size))
        have HR3 := Lib.hid (Rv.of_own O3.out (by intro u hu; rcases List.mem_append.1 hu with hu | hu; exact HOK.out u hu; rw [List.mem_singleton.1 hu]; exact hx)).1
        clear hHeld
        go_wp2_with fail
        refine (r6may_any A3 c3 _ (L ++ [(k, a, b)]) _ HR3.out (by simp)).mono ?_
        rintro e w4 ⟨rfl, hb4⟩
        have HB4 := Lib.hid (below_on S3.out hb4)
        have O4 := Lib.hid (own_below O3.out hb4 S2.out.1.size)
        cases hv : poM (L ++ [(k, a, b)]) with
        | false =>
          have HN := Lib.hid (D4.out HC.out hf hv)
          go_wp2_with fail
          go_ret3
          obtain rfl := HN.out
          exact ⟨none, 0, rfl, World.ownsRow_nil _ _ _ _, HB4.out⟩
        | true =>
          have HN := Lib.hid (D3.out HC.out hf hv)
          go_wp2_with fail
          go_ret3
          obtain rfl := HN.out
          exact ⟨A3, c3, by simp, by simpa using O4.out, HB4.out⟩
      refine AllReadyH.cons rfl (fun K hK => ?_) AllReadyH.nil
      go_simp
      have R1 := Lib.hid (rv_new w2.drew (k, a, b) hx)
      refine hK.out _ _ (Lib.hid (below_on hHeld.out new1)) (fun hHeld => ?_)
      clear hK K
      try simp only [Act.put, List.getElem_toArray, List.getElem_cons_zero, List.getElem_cons_succ, List.setIfInBounds_toArray, List.set_cons_zero, List.set_cons_succ]
      refine wpAnyH_ready (rs := [1]) (by kernel_rfl) (by simp) ?_
      refine AllReadyH.cons rfl (fun K hK => ?_) AllReadyH.nil
      go_simp
      refine (r3copy_any A c L.length L _ (S2.out.call hHeld.out).2.2.1 rfl (by omega)).mono ?_
      rintro e wb ⟨Ab, cb, rfl, hob, hb⟩
      have O1 := Lib.hid hob
      clear hob
      have R2 := Lib.hid (R1.out.keep hb)
      have O2 := Lib.hid (own_base O1.out hHeld.out.size)
      go_wp2_with fail
      refine hK.out _ _ (Lib.hid (below_on hHeld.out hb)) (fun hHeld => ?_)
      clear hK K
      try simp only [Act.put, List.getElem_toArray, List.getElem_cons_zero, List.getElem_cons_succ, List.setIfInBounds_toArray, List.set_cons_zero, List.set_cons_succ]
      refine wpAnyH_ready (rs := [4]) (by kernel_rfl) (by simp) ?_
      refine AllReadyH.cons rfl (fun K hK => ?_) AllReadyH.nil
      refine step_append_rv rfl (.tmp 21) (.tmp 23) rfl w2.heap.size _ L.length L rfl O2.out _ 1 1 [(k, a, b)] rfl R2.out rfl (by omega) hHeld.out.size ?_
      intro A3 c3 w3 ho3 hg3 hb3
      have O3 := Lib.hid ho3
      clear ho3
      refine hK.out _ _ (Lib.hid (hHeld.out.trans hb3)) (fun hHeld => ?_)
      clear hK K
      try simp only [Act.put, List.getElem_toArray, List.getElem_cons_zero, List.getElem_cons_succ, List.setIfInBounds_toArray, List.set_cons_zero, List.set_cons_succ]
      refine wpAnyH_take (i := 5) (v := ?_) rfl (by kernel_rfl) (by kernel_rfl) (by kernel_rfl) (fun _ _ _ h => h) (Or.inl ⟨by rfl, ?_⟩) (by assumption) ?_
      rotate_left 1
      · intro w _; go_simp; try with_reducible rfl
      try simp only [Act.put, List.getElem_toArray, List.getElem_cons_zero, List.getElem_cons_succ, List.setIfInBounds_toArray, List.set_cons_zero, List.set_cons_succ]
      refine wpAnyH_done (by kernel_rfl) ?_ _
      have S3 := Lib.hid (S2.out.1.trans (hHeld.out.mono S2.out.1.size))
      have HR3 := Lib.hid (Rv.of_own O3.out (by intro u hu; rcases List.mem_append.1 hu with hu | hu; exact HOK.out u hu; rw [List.mem_singleton.1 hu]; exact hx)).1
      clear hHeld
      go_wp2_with fail
      refine (r6may_any A3 c3 _ (L ++ [(k, a, b)]) _ HR3.out (by simp)).mono ?_
      rintro e w4 ⟨rfl, hb4⟩
      have HB4 := Lib.hid (below_on S3.out hb4)
      have O4 := Lib.hid (own_below O3.out hb4 S2.out.1.size)
      cases hv : poM (L ++ [(k, a, b)]) with
      | false =>
        have HN := Lib.hid (D4.out HC.out hf hv)
        go_wp2_with fail
        go_ret3
        obtain rfl := HN.out
        exact ⟨none, 0, rfl, World.ownsRow_nil _ _ _ _, HB4.out⟩
      | true =>
        have HN := Lib.hid (D3.out HC.out hf hv)
        go_wp2_with fail
        go_ret3
        obtain rfl := HN.out
        exact ⟨A3, c3, by simp, by simpa using O4.out, HB4.out⟩
end Go.Proofs.YtohbndjfnakelaaDoor
