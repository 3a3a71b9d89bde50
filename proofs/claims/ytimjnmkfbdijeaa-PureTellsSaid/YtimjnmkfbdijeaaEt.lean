/-
  Package calls: Whom.
-/
import Derived.Test.YtimjnmkfbdijeaaLei
namespace Go.Proofs.Ytimjnmkfbdijeaa
open Go.RowKit Go.Maps
set_option maxRecDepth 100000
set_option linter.unusedSimpArgs false
set_option linter.unusedVariables false

set_option maxHeartbeats 8000000 in
theorem whom11_v (y : Ma) (d : Md) (k : Int) (w : World) (hq : Hq w y d) (bs : d.s.length ≤ 1000) (bl : ∀ z ∈ d.s, z.2.length ≤ 1000) : Calls Try.prog 44 #[dv y d, .int .i64 k] w fun e w' => Ns11 w w' (wh11 d k) e := by
  obtain ⟨G, gc, P, pc, AA, cc, Z⟩ := y
  have hzl := hq.zlen
  dsimp only at hzl
  obtain ⟨sn, hsn⟩ : ∃ sn, d.s.length = sn := ⟨_, rfl⟩
  have HSN := Lib.hid hsn
  rw [hsn] at bs
  have S0 := Lib.hid ((((Sx.start w).add (fQm ⟨G, gc, P, pc, AA, cc, Z⟩ d) hq).mkD ⟨G, gc, P, pc, AA, cc, Z⟩ d))
  have HZL := Lib.hid (hzl.trans hsn)
  have HBL := Lib.hid bl
  obtain ⟨T, hT⟩ : ∃ T, wh11 d k = T := ⟨_, rfl⟩
  have HT := Lib.hid hT
  rw [hT]
  obtain ⟨B, hB⟩ : ∃ B, w.heap.size = B := ⟨_, rfl⟩
  have HBB := Lib.hid hB
  rw [hB] at S0
  clear hq hT hzl hsn bl
  go_enter Try.func44, Try.ntmps44
  go_upto_region 1 with (fail)
  change Code.wp _ _ _ _ (w.alloc (dcel ⟨G, gc, P, pc, AA, cc, Z⟩ d))
  generalize w.alloc (dcel ⟨G, gc, P, pc, AA, cc, Z⟩ d) = w1 at S0 ⊢
  have S1 := S0
  clear S0 hB
  obtain ⟨-, ⟨d0, d1, d2, d3, d4⟩, -⟩ := S1.out
  dsimp only at d1 d2 d3
  rw [HSN.out] at d3
  by_cases hk0 : k < 0
  · have HE := Lib.hid (Ns11.err (w := w) (w' := w1) (T := T) (e := 2) (by rw [← HT.out, wh11, if_pos (.inl hk0)]) S1.out.1)
    go_wp2_with fail
    go_ret2
    exact HE.out
  by_cases hks : (sn : Int) ≤ k
  · have HE := Lib.hid (Ns11.err (w := w) (w' := w1) (T := T) (e := 2) (by rw [← HT.out, wh11, if_pos (.inr (by rw [HSN.out]; exact hks))]) S1.out.1)
    go_wp2_with fail
    go_ret2
    exact HE.out
  obtain ⟨k, rfl⟩ : ∃ k' : Nat, k = k' := ⟨k.toNat, by omega⟩
  have hks2 : k < sn := by omega
  obtain ⟨ad8, hA8, hat, hok⟩ := S1.out.2.2.1.2.2.1.at_ (i := k) (by rw [HZL.out]; exact hks2)
  have hme := S1.out.2.2.1.zat (i := k) (by rw [HZL.out]; exact hks2) (by rw [HSN.out]; exact hks2)
  dsimp only at hA8 hat hok hme
  obtain ⟨zz, hzz⟩ : ∃ zz, Z[k]'(by rw [HZL.out]; exact hks2) = zz := ⟨_, rfl⟩
  rw [hzz] at hat hok hme
  obtain ⟨⟨XA, xc, XB, xd, XD, xk, xe⟩, h, L⟩ := zz
  subst hA8
  have hco : co11 d k = L := by rw [co11, List.getElem?_eq_getElem (by rw [HSN.out]; exact hks2), hme]; rfl
  have HTM : Hid (ca11 L sn = T) := Lib.hid (by rw [← HT.out, wh11_ca (by rw [HSN.out]; exact hks2), hco, HSN.out])
  have HLL : Hid (L.length ≤ 1000) := Lib.hid (HBL.out (h, L) (by
    have h2 := hme
    dsimp only at h2
    rw [← h2]
    exact List.getElem_mem _))
  obtain ⟨hH, hRi, hxk⟩ := hok
  dsimp only at hH hRi hxk
  obtain ⟨-, -, -, -, -, -, -, g7⟩ := hat
  dsimp only at g7
  obtain ⟨m, hm⟩ : ∃ m, L.length = m := ⟨_, rfl⟩
  obtain rfl : m = xk := by rw [← hm]; exact hxk
  have HCA := Lib.hid (called11_v XD xe m sn L w1.drew (Ri.drewN hRi 1) hm (by rw [← hm]; exact HLL.out) bs)
  rw [HTM.out] at HCA
  have HS0 : Hid (Ri w1.drew XD xe L) ∧ w1.drew.cell? ⟨B, 2, none⟩ = some (.slice (some ad8) sn cc) ∧ w1.drew.cell? ⟨(ad8.add (k * 8)).block, (ad8.add (k * 8)).off + 7, none⟩ = some (.slice XD m xe) := ⟨Lib.hid (Ri.drewN hRi 1), d3, g7⟩
  have HKE : Hid (∀ w', Below w1.heap.size w1.drew w' → Hid (Ri w' XD xe L) ∧ w'.cell? ⟨B, 2, none⟩ = some (.slice (some ad8) sn cc) ∧ w'.cell? ⟨(ad8.add (k * 8)).block, (ad8.add (k * 8)).off + 7, none⟩ = some (.slice XD m xe)) := Lib.hid fun w' hb => ⟨Lib.hid (Ri.keep (Ri.drewN hRi 1) hb), (hb.cell (p := ⟨B, 2, none⟩) d0).trans d3, (hb.cell (cell_lt g7)).trans g7⟩
  clear hzz hme hxk hm hRi hH hco
  go_upto_region 3 with (fail)
  refine wp_region_held_drew (S := fun w' => Hid (Ri w' XD xe L) ∧ w'.cell? ⟨B, 2, none⟩ = some (.slice (some ad8) sn cc) ∧ w'.cell? ⟨(ad8.add (k * 8)).block, (ad8.add (k * 8)).off + 7, none⟩ = some (.slice XD m xe)) (by kernel_rfl) (HS0) (fun hHeld => ?_)
  refine wpAnyH_take (i := 0) (v := ?_) rfl (by kernel_rfl) (by kernel_rfl) (by kernel_rfl) (fun _ _ _ h => h) (Or.inl ⟨by rfl, ?_⟩) (by assumption) ?_
  rotate_left 1
  · intro w _; go_simp; try with_reducible rfl
  try simp only [Act.put, List.getElem_toArray, List.getElem_cons_zero, List.getElem_cons_succ, List.setIfInBounds_toArray, List.set_cons_zero, List.set_cons_succ]
  refine wpAnyH_take (i := 1) (v := ?_) rfl (by kernel_rfl) (by kernel_rfl) (by kernel_rfl) (fun _ _ _ h => h) (Or.inl ⟨by rfl, ?_⟩) (by assumption) ?_
  rotate_left 1
  · intro w hSw; (try dsimp only at hSw); obtain ⟨-, s0, s1⟩ := hSw; go_simp; try with_reducible rfl
  try simp only [Act.put, List.getElem_toArray, List.getElem_cons_zero, List.getElem_cons_succ, List.setIfInBounds_toArray, List.set_cons_zero, List.set_cons_succ]
  refine wpAnyH_take (i := 2) (v := ?_) rfl (by kernel_rfl) (by kernel_rfl) (by kernel_rfl) (fun _ _ _ h => h) (Or.inl ⟨by rfl, ?_⟩) (by assumption) ?_
  rotate_left 1
  · intro w _; go_simp; try with_reducible rfl
  try simp only [Act.put, List.getElem_toArray, List.getElem_cons_zero, List.getElem_cons_succ, List.setIfInBounds_toArray, List.set_cons_zero, List.set_cons_succ]
  refine wpAnyH_take (i := 3) (v := ?_) rfl (by kernel_rfl) (by kernel_rfl) (by kernel_rfl) (fun _ _ _ h => h) (Or.inl ⟨by rfl, ?_⟩) (by assumption) ?_
  rotate_left 1
  · intro w _; go_simp; try with_reducible rfl
  try simp only [Act.put, List.getElem_toArray, List.getElem_cons_zero, List.getElem_cons_succ, List.setIfInBounds_toArray, List.set_cons_zero, List.set_cons_succ]
  refine wpAnyH_take (i := 4) (v := ?_) rfl (by kernel_rfl) (by kernel_rfl) (by kernel_rfl) (fun _ _ _ h => h) (Or.inl ⟨by rfl, ?_⟩) (by assumption) ?_
  rotate_left 1
  · intro w _; go_simp; try with_reducible rfl
  try simp only [Act.put, List.getElem_toArray, List.getElem_cons_zero, List.getElem_cons_succ, List.setIfInBounds_toArray, List.set_cons_zero, List.set_cons_succ]
  refine wpAnyH_take (i := 5) (v := ?_) rfl (by kernel_rfl) (by kernel_rfl) (by kernel_rfl) (fun _ _ _ h => h) (Or.inl ⟨by rfl, ?_⟩) (by assumption) ?_
  rotate_left 1
  · intro w hSw; (try dsimp only at hSw); obtain ⟨-, s0, s1⟩ := hSw; go_simp; try with_reducible rfl
  try simp only [Act.put, List.getElem_toArray, List.getElem_cons_zero, List.getElem_cons_succ, List.setIfInBounds_toArray, List.set_cons_zero, List.set_cons_succ]
  refine wpAnyH_take (i := 6) (v := ?_) rfl (by kernel_rfl) (by kernel_rfl) (by kernel_rfl) (fun _ _ _ h => h) (Or.inl ⟨by rfl, ?_⟩) (by assumption) ?_
  rotate_left 1
  · intro w _; go_simp; try with_reducible rfl
  try simp only [Act.put, List.getElem_toArray, List.getElem_cons_zero, List.getElem_cons_succ, List.setIfInBounds_toArray, List.set_cons_zero, List.set_cons_succ]
  refine wpAnyH_take (i := 7) (v := ?_) rfl (by kernel_rfl) (by kernel_rfl) (by kernel_rfl) (fun _ _ _ h => h) (Or.inl ⟨by rfl, ?_⟩) (by assumption) ?_
  rotate_left 1
  · intro w hSw; (try dsimp only at hSw); obtain ⟨-, s0, s1⟩ := hSw; go_simp; try with_reducible rfl
  try simp only [Act.put, List.getElem_toArray, List.getElem_cons_zero, List.getElem_cons_succ, List.setIfInBounds_toArray, List.set_cons_zero, List.set_cons_succ]
  refine wpAnyH_take (i := 8) (v := ?_) rfl (by kernel_rfl) (by kernel_rfl) (by kernel_rfl) (fun _ _ _ h => h) (Or.inl ⟨by rfl, ?_⟩) (by assumption) ?_
  rotate_left 1
  · intro w _; go_simp; try with_reducible rfl
  try simp only [Act.put, List.getElem_toArray, List.getElem_cons_zero, List.getElem_cons_succ, List.setIfInBounds_toArray, List.set_cons_zero, List.set_cons_succ]
  refine wpAnyH_ready (rs := [9]) (by kernel_rfl) (by simp) ?_
  refine AllReadyH.cons rfl (fun K hK => ?_) AllReadyH.nil
  go_simp
  refine HCA.out.mono ?_
  rintro r w3 ⟨A3, c3, rfl, ho, hb⟩
  have HO3 := Lib.hid (own_base (base' := w.heap.size) ho S1.out.1.size)
  have HB3 := Lib.hid (S1.out.1.drew.trans (hb.mono S1.out.1.size))
  have HS3 := HKE.out _ hb
  clear ho hb
  go_wp2_with fail
  refine hK.out _ _ (HS3) (fun hHeld => ?_)
  clear hK K
  try simp only [Act.put, List.getElem_toArray, List.getElem_cons_zero, List.getElem_cons_succ, List.setIfInBounds_toArray, List.set_cons_zero, List.set_cons_succ]
  refine wpAnyH_take (i := 10) (v := ?_) rfl (by kernel_rfl) (by kernel_rfl) (by kernel_rfl) (fun _ _ _ h => h) (Or.inl ⟨by rfl, ?_⟩) (by assumption) ?_
  rotate_left 1
  · intro w _; go_simp; try with_reducible rfl
  try simp only [Act.put, List.getElem_toArray, List.getElem_cons_zero, List.getElem_cons_succ, List.setIfInBounds_toArray, List.set_cons_zero, List.set_cons_succ]
  refine wpAnyH_take (i := 11) (v := ?_) rfl (by kernel_rfl) (by kernel_rfl) (by kernel_rfl) (fun _ _ _ h => h) (Or.inl ⟨by rfl, ?_⟩) (by assumption) ?_
  rotate_left 1
  · intro w _; go_simp; try with_reducible rfl
  try simp only [Act.put, List.getElem_toArray, List.getElem_cons_zero, List.getElem_cons_succ, List.setIfInBounds_toArray, List.set_cons_zero, List.set_cons_succ]
  refine wpAnyH_take (i := 12) (v := ?_) rfl (by kernel_rfl) (by kernel_rfl) (by kernel_rfl) (fun _ _ _ h => h) (Or.inl ⟨by rfl, ?_⟩) (by assumption) ?_
  rotate_left 1
  · intro w _; go_simp; try with_reducible rfl
  try simp only [Act.put, List.getElem_toArray, List.getElem_cons_zero, List.getElem_cons_succ, List.setIfInBounds_toArray, List.set_cons_zero, List.set_cons_succ]
  refine wpAnyH_take (i := 13) (v := ?_) rfl (by kernel_rfl) (by kernel_rfl) (by kernel_rfl) (fun _ _ _ h => h) (Or.inl ⟨by rfl, ?_⟩) (by assumption) ?_
  rotate_left 1
  · intro w _; go_simp; try with_reducible rfl
  try simp only [Act.put, List.getElem_toArray, List.getElem_cons_zero, List.getElem_cons_succ, List.setIfInBounds_toArray, List.set_cons_zero, List.set_cons_succ]
  refine wpAnyH_done (by kernel_rfl) ?_ _
  clear hHeld
  go_wp2_with fail
  go_ret2
  exact ⟨A3, c3, rfl, HO3.out, HB3.out⟩
end Go.Proofs.Ytimjnmkfbdijeaa
