/-
  What value.Bytes answers for an integer and for a pair: the bytes, in a new slice; nothing that was there has changed.
-/
import Derived.Test.YtndgiehipajghaaDoorVfld
namespace Go.Proofs.YtndgiehipajghaaDoor
open Go.RowKit
set_option linter.unusedSimpArgs false
set_option linter.unusedVariables false

set_option maxRecDepth 100000 in
set_option maxHeartbeats 2000000 in
theorem vbytes_1 (a : Int) (w : World) (hw : GW w) : Calls Tryd.prog 10 #[.agg #[.int .u8 1, .int .i64 a, .int .i64 0]] w fun e w' => ∃ A c, e = .returned (.tuple #[.slice A 9 c, .int .i64 0]) ∧
      w'.ownsRow w.heap.size 5 1 (.slice A 9 c) 9 (cel (1 :: digs a 8)) ∧ Below w.heap.size w w' := by
  obtain ⟨i0, hi, hz0, hz1, hz2⟩ := info_parts Tryd.info5
  have HM : Hid (mayB 1 a 0 = true) := by simp [Hid, mayB]
  have G := Lib.hid hw
  clear hw
  go_enter Tryd.func10, Tryd.ntmps10
  go_wp2_with fail
  refine (vmay_v _ _ _ _ _ HM.out).mono ?_
  rintro e w1 ⟨rfl, hb1⟩
  have S1 := Lib.hid (((Sx.start w).add fG G.out).newV hb1)
  clear hb1 HM
  obtain ⟨-, ⟨z1, z2, z3, z4, -⟩, ⟨g0, g1, g2, g3, g4, g5⟩, -⟩ := S1.out
  go_upto_region 4 with (fail)
  have S2 := Lib.hid (S1.out.mkP 8 0 45)
  clear z1 z2 z3 z4 g0 g1 g2 g3 g4 g5 S1 G
  generalize w1.alloc (.cells #[.int .i64 8, .int .i64 0] 45) = w2 at *
  refine wp_region_held_drew (S := fun w' => Hid (Below w2.heap.size w2 w')) (by kernel_rfl) (Lib.hid (below_draws (Below.refl _ _) 1)) (fun hHeld => ?_)
  refine wpAnyH_take (i := 0) (v := ?_) rfl (by kernel_rfl) (by kernel_rfl) (by kernel_rfl) (fun _ _ _ h => h) (Or.inl ⟨by rfl, ?_⟩) (by assumption) ?_
  rotate_left 1
  · intro w _; go_simp; try with_reducible rfl
  try simp only [Act.put, List.getElem_toArray, List.getElem_cons_zero, List.getElem_cons_succ, List.setIfInBounds_toArray, List.set_cons_zero, List.set_cons_succ]
  refine wpAnyH_take (i := 1) (v := ?_) rfl (by kernel_rfl) (by kernel_rfl) (by kernel_rfl) (fun _ _ _ h => h) (Or.inl ⟨by rfl, ?_⟩) (by assumption) ?_
  rotate_left 1
  · intro w hSw; (try dsimp only at hSw); obtain ⟨-, ⟨-, t1, t2, -⟩, ⟨-, s1, s2, s3, -⟩, -⟩ := S2.out.call hSw.out; go_simp; try with_reducible rfl
  try simp only [Act.put, List.getElem_toArray, List.getElem_cons_zero, List.getElem_cons_succ, List.setIfInBounds_toArray, List.set_cons_zero, List.set_cons_succ]
  refine wpAnyH_take (i := 3) (v := ?_) rfl (by kernel_rfl) (by kernel_rfl) (by kernel_rfl) (fun _ _ _ h => h) (Or.inl ⟨by rfl, ?_⟩) (by assumption) ?_
  rotate_left 1
  · intro w _; go_simp; try with_reducible rfl
  try simp only [Act.put, List.getElem_toArray, List.getElem_cons_zero, List.getElem_cons_succ, List.setIfInBounds_toArray, List.set_cons_zero, List.set_cons_succ]
  refine wpAnyH_take (i := 4) (v := ?_) rfl (by kernel_rfl) (by kernel_rfl) (by kernel_rfl) (fun _ _ _ h => h) (Or.inl ⟨by rfl, ?_⟩) (by assumption) ?_
  rotate_left 1
  · intro w hSw; (try dsimp only at hSw); obtain ⟨-, ⟨-, t1, t2, -⟩, ⟨-, s1, s2, s3, -⟩, -⟩ := S2.out.call hSw.out; go_simp; try with_reducible rfl
  try simp only [Act.put, List.getElem_toArray, List.getElem_cons_zero, List.getElem_cons_succ, List.setIfInBounds_toArray, List.set_cons_zero, List.set_cons_succ]
  refine wpAnyH_take (i := 5) (v := ?_) rfl (by kernel_rfl) (by kernel_rfl) (by kernel_rfl) (fun _ _ _ h => h) (Or.inl ⟨by rfl, ?_⟩) (by assumption) ?_
  rotate_left 1
  · intro w _; go_simp; try with_reducible rfl
  try simp only [Act.put, List.getElem_toArray, List.getElem_cons_zero, List.getElem_cons_succ, List.setIfInBounds_toArray, List.set_cons_zero, List.set_cons_succ]
  refine wpAnyH_take (i := 6) (v := ?_) rfl (by kernel_rfl) (by kernel_rfl) (by kernel_rfl) (fun _ _ _ h => h) (Or.inl ⟨by rfl, ?_⟩) (by assumption) ?_
  rotate_left 1
  · intro w hSw; (try dsimp only at hSw); obtain ⟨-, ⟨-, t1, t2, -⟩, ⟨-, s1, s2, s3, -⟩, -⟩ := S2.out.call hSw.out; go_simp; try with_reducible rfl
  try simp only [Act.put, List.getElem_toArray, List.getElem_cons_zero, List.getElem_cons_succ, List.setIfInBounds_toArray, List.set_cons_zero, List.set_cons_succ]
  refine wpAnyH_ready (rs := [2, 7]) (by kernel_rfl) (by simp) ?_
  refine AllReadyH.cons rfl (fun K hK => ?_) ?_
  · skip
    go_simp
    have O1 : Hid ((w2.drew.alloc (.cells #[.int .u8 1] 5)).ownsRow w2.heap.size 5 1 (.slice (some ⟨w2.heap.size, 0, none⟩) 1 1) 1 (cel [1])) := World.ownsRow_lit (base := w2.heap.size) (e := 5) (size := 1) w2.drew #[.int .u8 1] 1 (Nat.le_refl _) (by unfold maxLen; simp) (by simp)
    refine hK.out _ _ (Lib.hid (below_on hHeld.out new1)) (fun hHeld => ?_)
    clear hK K
    try simp only [Act.put, List.getElem_toArray, List.getElem_cons_zero, List.getElem_cons_succ, List.setIfInBounds_toArray, List.set_cons_zero, List.set_cons_succ]
    refine wpAnyH_ready (rs := [7]) (by kernel_rfl) (by simp) ?_
    refine AllReadyH.cons rfl (fun K hK => ?_) AllReadyH.nil
    go_simp
    refine (field_8 a _).mono ?_
    rintro e wb ⟨rfl, hob, hb⟩
    have R1 : Hid (Rd wb (some ⟨w2.heap.size + 1, 0, none⟩) 8 (digs a 8)) := by
      have := own_rd hob (byt_digs _ _)
      simpa [Hid] using this
    clear hob
    have O2 := Lib.hid (own_below O1.out hb (Nat.le_refl _))
    go_wp2_with fail
    refine hK.out _ _ (Lib.hid (below_on hHeld.out hb)) (fun hHeld => ?_)
    clear hK K
    try simp only [Act.put, List.getElem_toArray, List.getElem_cons_zero, List.getElem_cons_succ, List.setIfInBounds_toArray, List.set_cons_zero, List.set_cons_succ]
    refine wpAnyH_ready (rs := [8]) (by kernel_rfl) (by simp) ?_
    refine AllReadyH.cons rfl (fun K hK => ?_) AllReadyH.nil
    refine step_append_rd rfl (.tmp 15) (.tmp 20) 26 rfl w2.heap.size 5 i0 Tryd.underlying26 hi hz0 hz1 hz2 _ 1 [1] rfl O2.out _ 8 8 (digs a 8) rfl R1.out (length_digs _ _).symm (by omega) hHeld.out.size ?_
    intro A3 c3 w3 ho3 hb3
    have O3 := Lib.hid ho3
    clear ho3
    refine hK.out _ _ (Lib.hid (hHeld.out.trans hb3)) (fun hHeld => ?_)
    clear hK K
    try simp only [Act.put, List.getElem_toArray, List.getElem_cons_zero, List.getElem_cons_succ, List.setIfInBounds_toArray, List.set_cons_zero, List.set_cons_succ]
    refine wpAnyH_take (i := 9) (v := ?_) rfl (by kernel_rfl) (by kernel_rfl) (by kernel_rfl) (fun _ _ _ h => h) (Or.inl ⟨by rfl, ?_⟩) (by assumption) ?_
    rotate_left 1
    · intro w _; go_simp; try with_reducible rfl
    try simp only [Act.put, List.getElem_toArray, List.getElem_cons_zero, List.getElem_cons_succ, List.setIfInBounds_toArray, List.set_cons_zero, List.set_cons_succ]
    refine wpAnyH_done (by kernel_rfl) ?_ _
    obtain ⟨-, ⟨-, t1, t2, -⟩, ⟨-, s1, s2, s3, -⟩, -⟩ := S2.out.call hHeld.out
    go_wp2_with fail
    refine (field_0 0 _).mono ?_
    rintro e w4 ⟨rfl, rfl⟩
    go_wp2_with (at_builtin; refine wpList_append_rd _ rfl _ _ 26 rfl w2.heap.size 5 i0 Tryd.underlying26 hi hz0 hz1 hz2 _ 9 ([1] ++ digs a 8) rfl O3.out none 0 0 [] rfl (Rd.none_ _) rfl (by omega) hHeld.out.size ?_; intro A5 c5 w5 ho5 hg5 hb5 _)
    go_ret2
    exact ⟨A5, c5, rfl, own_base (by simpa using ho5) S2.out.1.size, below_on S2.out.1 (hHeld.out.trans hb5)⟩
  refine AllReadyH.cons rfl (fun K hK => ?_) AllReadyH.nil
  go_simp
  refine (field_8 a _).mono ?_
  rintro e wb ⟨rfl, hob, hb⟩
  have R1 := Lib.hid (own_rd hob (byt_digs _ _))
  clear hob
  go_wp2_with fail
  refine hK.out _ _ (Lib.hid (below_on hHeld.out hb)) (fun hHeld => ?_)
  clear hK K
  try simp only [Act.put, List.getElem_toArray, List.getElem_cons_zero, List.getElem_cons_succ, List.setIfInBounds_toArray, List.set_cons_zero, List.set_cons_succ]
  refine wpAnyH_ready (rs := [2]) (by kernel_rfl) (by simp) ?_
  refine AllReadyH.cons rfl (fun K hK => ?_) AllReadyH.nil
  go_simp
  have O1 : Hid ((wb.alloc (.cells #[.int .u8 1] 5)).ownsRow w2.heap.size 5 1 (.slice (some ⟨wb.heap.size, 0, none⟩) 1 1) 1 (cel [1])) := own_base (World.ownsRow_lit (base := wb.heap.size) (e := 5) (size := 1) wb #[.int .u8 1] 1 (Nat.le_refl _) (by unfold maxLen; simp) (by simp)) hHeld.out.size
  refine hK.out _ _ (Lib.hid (below_on hHeld.out new1)) (fun hHeld => ?_)
  clear hK K
  try simp only [Act.put, List.getElem_toArray, List.getElem_cons_zero, List.getElem_cons_succ, List.setIfInBounds_toArray, List.set_cons_zero, List.set_cons_succ]
  refine wpAnyH_ready (rs := [8]) (by kernel_rfl) (by simp) ?_
  refine AllReadyH.cons rfl (fun K hK => ?_) AllReadyH.nil
  refine step_append_rd rfl (.tmp 15) (.tmp 20) 26 rfl w2.heap.size 5 i0 Tryd.underlying26 hi hz0 hz1 hz2 _ 1 [1] rfl O1.out _ 8 8 (digs a 8) rfl (R1.out.alloc _) (length_digs _ _).symm (by omega) hHeld.out.size ?_
  intro A3 c3 w3 ho3 hb3
  have O3 := Lib.hid ho3
  clear ho3
  refine hK.out _ _ (Lib.hid (hHeld.out.trans hb3)) (fun hHeld => ?_)
  clear hK K
  try simp only [Act.put, List.getElem_toArray, List.getElem_cons_zero, List.getElem_cons_succ, List.setIfInBounds_toArray, List.set_cons_zero, List.set_cons_succ]
  refine wpAnyH_take (i := 9) (v := ?_) rfl (by kernel_rfl) (by kernel_rfl) (by kernel_rfl) (fun _ _ _ h => h) (Or.inl ⟨by rfl, ?_⟩) (by assumption) ?_
  rotate_left 1
  · intro w _; go_simp; try with_reducible rfl
  try simp only [Act.put, List.getElem_toArray, List.getElem_cons_zero, List.getElem_cons_succ, List.setIfInBounds_toArray, List.set_cons_zero, List.set_cons_succ]
  refine wpAnyH_done (by kernel_rfl) ?_ _
  obtain ⟨-, ⟨-, t1, t2, -⟩, ⟨-, s1, s2, s3, -⟩, -⟩ := S2.out.call hHeld.out
  go_wp2_with fail
  refine (field_0 0 _).mono ?_
  rintro e w4 ⟨rfl, rfl⟩
  go_wp2_with (at_builtin; refine wpList_append_rd _ rfl _ _ 26 rfl w2.heap.size 5 i0 Tryd.underlying26 hi hz0 hz1 hz2 _ 9 ([1] ++ digs a 8) rfl O3.out none 0 0 [] rfl (Rd.none_ _) rfl (by omega) hHeld.out.size ?_; intro A5 c5 w5 ho5 hg5 hb5 _)
  go_ret2
  exact ⟨A5, c5, rfl, own_base (by simpa using ho5) S2.out.1.size, below_on S2.out.1 (hHeld.out.trans hb5)⟩
set_option maxRecDepth 100000 in
set_option maxHeartbeats 2000000 in
theorem vbytes_2 (a b : Int) (w : World) (hw : GW w) (hg : okB a b = true) : Calls Tryd.prog 10 #[.agg #[.int .u8 2, .int .i64 a, .int .i64 b]] w fun e w' => ∃ A c, e = .returned (.tuple #[.slice A 7 c, .int .i64 0]) ∧
      w'.ownsRow w.heap.size 5 1 (.slice A 7 c) 7 (cel (2 :: (digs (a + 1048576) 3 ++ digs (b + 1048576) 3))) ∧ Below w.heap.size w w' := by
  obtain ⟨i0, hi, hz0, hz1, hz2⟩ := info_parts Tryd.info5
  obtain ⟨⟨a1, a2⟩, b1, b2⟩ := okB_iff.1 hg
  have HM : Hid (mayB 2 a b = true) := by simp [Hid, mayB, hg]
  clear hg
  have G := Lib.hid hw
  clear hw
  go_enter Tryd.func10, Tryd.ntmps10
  go_wp2_with fail
  refine (vmay_v _ _ _ _ _ HM.out).mono ?_
  rintro e w1 ⟨rfl, hb1⟩
  have S1 := Lib.hid (((Sx.start w).add fG G.out).newV hb1)
  clear hb1 HM
  obtain ⟨-, ⟨z1, z2, z3, z4, -⟩, ⟨g0, g1, g2, g3, g4, g5⟩, -⟩ := S1.out
  go_upto_region 4 with (fail)
  have S2 := Lib.hid (S1.out.mkP 3 3 45)
  clear z1 z2 z3 z4 g0 g1 g2 g3 g4 g5 S1 G
  generalize w1.alloc (.cells #[.int .i64 3, .int .i64 3] 45) = w2 at *
  refine wp_region_held_drew (S := fun w' => Hid (Below w2.heap.size w2 w')) (by kernel_rfl) (Lib.hid (below_draws (Below.refl _ _) 1)) (fun hHeld => ?_)
  refine wpAnyH_take (i := 0) (v := ?_) rfl (by kernel_rfl) (by kernel_rfl) (by kernel_rfl) (fun _ _ _ h => h) (Or.inl ⟨by rfl, ?_⟩) (by assumption) ?_
  rotate_left 1
  · intro w _; go_simp; try with_reducible rfl
  try simp only [Act.put, List.getElem_toArray, List.getElem_cons_zero, List.getElem_cons_succ, List.setIfInBounds_toArray, List.set_cons_zero, List.set_cons_succ]
  refine wpAnyH_take (i := 1) (v := ?_) rfl (by kernel_rfl) (by kernel_rfl) (by kernel_rfl) (fun _ _ _ h => h) (Or.inl ⟨by rfl, ?_⟩) (by assumption) ?_
  rotate_left 1
  · intro w hSw; (try dsimp only at hSw); obtain ⟨-, ⟨-, t1, t2, -⟩, ⟨-, s1, s2, s3, -⟩, -⟩ := S2.out.call hSw.out; go_simp; try with_reducible rfl
  try simp only [Act.put, List.getElem_toArray, List.getElem_cons_zero, List.getElem_cons_succ, List.setIfInBounds_toArray, List.set_cons_zero, List.set_cons_succ]
  refine wpAnyH_take (i := 3) (v := ?_) rfl (by kernel_rfl) (by kernel_rfl) (by kernel_rfl) (fun _ _ _ h => h) (Or.inl ⟨by rfl, ?_⟩) (by assumption) ?_
  rotate_left 1
  · intro w _; go_simp; try with_reducible rfl
  try simp only [Act.put, List.getElem_toArray, List.getElem_cons_zero, List.getElem_cons_succ, List.setIfInBounds_toArray, List.set_cons_zero, List.set_cons_succ]
  refine wpAnyH_take (i := 4) (v := ?_) rfl (by kernel_rfl) (by kernel_rfl) (by kernel_rfl) (fun _ _ _ h => h) (Or.inl ⟨by rfl, ?_⟩) (by assumption) ?_
  rotate_left 1
  · intro w hSw; (try dsimp only at hSw); obtain ⟨-, ⟨-, t1, t2, -⟩, ⟨-, s1, s2, s3, -⟩, -⟩ := S2.out.call hSw.out; go_simp; try with_reducible rfl
  try simp only [Act.put, List.getElem_toArray, List.getElem_cons_zero, List.getElem_cons_succ, List.setIfInBounds_toArray, List.set_cons_zero, List.set_cons_succ]
  refine wpAnyH_take (i := 5) (v := ?_) rfl (by kernel_rfl) (by kernel_rfl) (by kernel_rfl) (fun _ _ _ h => h) (Or.inl ⟨by rfl, ?_⟩) (by assumption) ?_
  rotate_left 1
  · intro w _; go_simp; try with_reducible rfl
  try simp only [Act.put, List.getElem_toArray, List.getElem_cons_zero, List.getElem_cons_succ, List.setIfInBounds_toArray, List.set_cons_zero, List.set_cons_succ]
  refine wpAnyH_take (i := 6) (v := ?_) rfl (by kernel_rfl) (by kernel_rfl) (by kernel_rfl) (fun _ _ _ h => h) (Or.inl ⟨by rfl, ?_⟩) (by assumption) ?_
  rotate_left 1
  · intro w hSw; (try dsimp only at hSw); obtain ⟨-, ⟨-, t1, t2, -⟩, ⟨-, s1, s2, s3, -⟩, -⟩ := S2.out.call hSw.out; go_simp; try with_reducible rfl
  try simp only [Act.put, List.getElem_toArray, List.getElem_cons_zero, List.getElem_cons_succ, List.setIfInBounds_toArray, List.set_cons_zero, List.set_cons_succ]
  refine wpAnyH_ready (rs := [2, 7]) (by kernel_rfl) (by simp) ?_
  refine AllReadyH.cons rfl (fun K hK => ?_) ?_
  · skip
    go_simp
    have O1 : Hid ((w2.drew.alloc (.cells #[.int .u8 2] 5)).ownsRow w2.heap.size 5 1 (.slice (some ⟨w2.heap.size, 0, none⟩) 1 1) 1 (cel [2])) := World.ownsRow_lit (base := w2.heap.size) (e := 5) (size := 1) w2.drew #[.int .u8 2] 1 (Nat.le_refl _) (by unfold maxLen; simp) (by simp)
    refine hK.out _ _ (Lib.hid (below_on hHeld.out new1)) (fun hHeld => ?_)
    clear hK K
    try simp only [Act.put, List.getElem_toArray, List.getElem_cons_zero, List.getElem_cons_succ, List.setIfInBounds_toArray, List.set_cons_zero, List.set_cons_succ]
    refine wpAnyH_ready (rs := [7]) (by kernel_rfl) (by simp) ?_
    refine AllReadyH.cons rfl (fun K hK => ?_) AllReadyH.nil
    go_simp
    refine (field_3 a _ (by omega) (by omega)).mono ?_
    rintro e wb ⟨Ab, cb, rfl, hob, hb⟩
    have R1 := Lib.hid (own_rd hob (byt_digs _ _))
    clear hob
    have O2 := Lib.hid (own_below O1.out hb (Nat.le_refl _))
    go_wp2_with fail
    refine hK.out _ _ (Lib.hid (below_on hHeld.out hb)) (fun hHeld => ?_)
    clear hK K
    try simp only [Act.put, List.getElem_toArray, List.getElem_cons_zero, List.getElem_cons_succ, List.setIfInBounds_toArray, List.set_cons_zero, List.set_cons_succ]
    refine wpAnyH_ready (rs := [8]) (by kernel_rfl) (by simp) ?_
    refine AllReadyH.cons rfl (fun K hK => ?_) AllReadyH.nil
    refine step_append_rd rfl (.tmp 15) (.tmp 20) 26 rfl w2.heap.size 5 i0 Tryd.underlying26 hi hz0 hz1 hz2 _ 1 [2] rfl O2.out _ 3 cb (digs (a + 1048576) 3) rfl R1.out (length_digs _ _).symm (by omega) hHeld.out.size ?_
    intro A3 c3 w3 ho3 hb3
    have O3 := Lib.hid ho3
    clear ho3
    refine hK.out _ _ (Lib.hid (hHeld.out.trans hb3)) (fun hHeld => ?_)
    clear hK K
    try simp only [Act.put, List.getElem_toArray, List.getElem_cons_zero, List.getElem_cons_succ, List.setIfInBounds_toArray, List.set_cons_zero, List.set_cons_succ]
    refine wpAnyH_take (i := 9) (v := ?_) rfl (by kernel_rfl) (by kernel_rfl) (by kernel_rfl) (fun _ _ _ h => h) (Or.inl ⟨by rfl, ?_⟩) (by assumption) ?_
    rotate_left 1
    · intro w _; go_simp; try with_reducible rfl
    try simp only [Act.put, List.getElem_toArray, List.getElem_cons_zero, List.getElem_cons_succ, List.setIfInBounds_toArray, List.set_cons_zero, List.set_cons_succ]
    refine wpAnyH_done (by kernel_rfl) ?_ _
    obtain ⟨-, ⟨-, t1, t2, -⟩, ⟨-, s1, s2, s3, -⟩, -⟩ := S2.out.call hHeld.out
    go_wp2_with fail
    refine (field_3 b _ b1 b2).mono ?_
    rintro e w4 ⟨A4, c4, rfl, ho4, hb4⟩
    have R4 := Lib.hid (own_rd ho4 (byt_digs _ _))
    have O4 := Lib.hid (own_below O3.out hb4 (Nat.le_refl _))
    have S4 := Lib.hid (below_on hHeld.out hb4)
    clear ho4 hb4 t1 t2 s1 s2 s3
    go_wp2_with (at_builtin; refine wpList_append_rd _ rfl _ _ 26 rfl w2.heap.size 5 i0 Tryd.underlying26 hi hz0 hz1 hz2 _ 4 ([2] ++ digs (a + 1048576) 3) rfl O4.out A4 3 c4 (digs (b + 1048576) 3) rfl R4.out (length_digs _ _).symm (by omega) S4.out.size ?_; intro A5 c5 w5 ho5 hg5 hb5 _)
    go_ret2
    exact ⟨A5, c5, rfl, own_base (by simpa using ho5) S2.out.1.size, below_on S2.out.1 (S4.out.trans hb5)⟩
  refine AllReadyH.cons rfl (fun K hK => ?_) AllReadyH.nil
  go_simp
  refine (field_3 a _ (by omega) (by omega)).mono ?_
  rintro e wb ⟨Ab, cb, rfl, hob, hb⟩
  have R1 := Lib.hid (own_rd hob (byt_digs _ _))
  clear hob
  go_wp2_with fail
  refine hK.out _ _ (Lib.hid (below_on hHeld.out hb)) (fun hHeld => ?_)
  clear hK K
  try simp only [Act.put, List.getElem_toArray, List.getElem_cons_zero, List.getElem_cons_succ, List.setIfInBounds_toArray, List.set_cons_zero, List.set_cons_succ]
  refine wpAnyH_ready (rs := [2]) (by kernel_rfl) (by simp) ?_
  refine AllReadyH.cons rfl (fun K hK => ?_) AllReadyH.nil
  go_simp
  have O1 : Hid ((wb.alloc (.cells #[.int .u8 2] 5)).ownsRow w2.heap.size 5 1 (.slice (some ⟨wb.heap.size, 0, none⟩) 1 1) 1 (cel [2])) := own_base (World.ownsRow_lit (base := wb.heap.size) (e := 5) (size := 1) wb #[.int .u8 2] 1 (Nat.le_refl _) (by unfold maxLen; simp) (by simp)) hHeld.out.size
  refine hK.out _ _ (Lib.hid (below_on hHeld.out new1)) (fun hHeld => ?_)
  clear hK K
  try simp only [Act.put, List.getElem_toArray, List.getElem_cons_zero, List.getElem_cons_succ, List.setIfInBounds_toArray, List.set_cons_zero, List.set_cons_succ]
  refine wpAnyH_ready (rs := [8]) (by kernel_rfl) (by simp) ?_
  refine AllReadyH.cons rfl (fun K hK => ?_) AllReadyH.nil
  refine step_append_rd rfl (.tmp 15) (.tmp 20) 26 rfl w2.heap.size 5 i0 Tryd.underlying26 hi hz0 hz1 hz2 _ 1 [2] rfl O1.out _ 3 cb (digs (a + 1048576) 3) rfl (R1.out.alloc _) (length_digs _ _).symm (by omega) hHeld.out.size ?_
  intro A3 c3 w3 ho3 hb3
  have O3 := Lib.hid ho3
  clear ho3
  refine hK.out _ _ (Lib.hid (hHeld.out.trans hb3)) (fun hHeld => ?_)
  clear hK K
  try simp only [Act.put, List.getElem_toArray, List.getElem_cons_zero, List.getElem_cons_succ, List.setIfInBounds_toArray, List.set_cons_zero, List.set_cons_succ]
  refine wpAnyH_take (i := 9) (v := ?_) rfl (by kernel_rfl) (by kernel_rfl) (by kernel_rfl) (fun _ _ _ h => h) (Or.inl ⟨by rfl, ?_⟩) (by assumption) ?_
  rotate_left 1
  · intro w _; go_simp; try with_reducible rfl
  try simp only [Act.put, List.getElem_toArray, List.getElem_cons_zero, List.getElem_cons_succ, List.setIfInBounds_toArray, List.set_cons_zero, List.set_cons_succ]
  refine wpAnyH_done (by kernel_rfl) ?_ _
  obtain ⟨-, ⟨-, t1, t2, -⟩, ⟨-, s1, s2, s3, -⟩, -⟩ := S2.out.call hHeld.out
  go_wp2_with fail
  refine (field_3 b _ b1 b2).mono ?_
  rintro e w4 ⟨A4, c4, rfl, ho4, hb4⟩
  have R4 := Lib.hid (own_rd ho4 (byt_digs _ _))
  have O4 := Lib.hid (own_below O3.out hb4 (Nat.le_refl _))
  have S4 := Lib.hid (below_on hHeld.out hb4)
  clear ho4 hb4 t1 t2 s1 s2 s3
  go_wp2_with (at_builtin; refine wpList_append_rd _ rfl _ _ 26 rfl w2.heap.size 5 i0 Tryd.underlying26 hi hz0 hz1 hz2 _ 4 ([2] ++ digs (a + 1048576) 3) rfl O4.out A4 3 c4 (digs (b + 1048576) 3) rfl R4.out (length_digs _ _).symm (by omega) S4.out.size ?_; intro A5 c5 w5 ho5 hg5 hb5 _)
  go_ret2
  exact ⟨A5, c5, rfl, own_base (by simpa using ho5) S2.out.1.size, below_on S2.out.1 (S4.out.trans hb5)⟩
end Go.Proofs.YtndgiehipajghaaDoor
