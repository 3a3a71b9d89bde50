/-
  The walk of ValueBack for a value that has 9 bytes: what stands behind is read, or not.
-/
import Derived.Test.YtndgiehipajghaaDoorVback
namespace Go.Proofs.YtndgiehipajghaaDoor
open Go.RowKit
set_option linter.unusedSimpArgs false
set_option linter.unusedVariables false

set_option maxRecDepth 100000 in
set_option maxHeartbeats 1500000 in
theorem back_9e (k a b : Int) (L : List Int) (A1 A2 : Option Addr) (cA c2 : Nat) (la lb : List Int) (p e2 : Int) (w : World) (ha : Rd w A1 cA la) (hb : Rd w A2 c2 lb) (hw : GW w) (hm : mayB k a b = true) (hB : bytE k a b = 0 ∧ bytL k a b = L ∧ L.length = 9) (hbL : Byt L) (hla : (la.length : Int) ≤ 300) (hlb : (lb.length : Int) ≤ 300) (hi : insB k a b = true) (hT : rdT (la ++ (L ++ lb)) (la.length : Int) = (k, a, b, (la.length : Int) + 9, 0)) (hC : rdT (L.take 8) 0 = (0, 0, 0, 0, 10)) (hR : rdT lb p = (0, 0, 0, 0, e2)) (he : (e2 != 0) = true) :
    Calls Tryd.prog 5 #[.agg #[.int .u8 k, .int .i64 a, .int .i64 b], .slice A1 la.length cA, .slice A2 lb.length c2, .int .i64 p] w fun e w' => e = .returned (.bool true) ∧ Below w.heap.size w w' := by
  obtain ⟨i0, hi0, hz0, hz1, hz2⟩ := info_parts Tryd.info5
  have HM := Lib.hid hm
  have HB := Lib.hid hB
  have BL := Lib.hid hbL
  have HR := Lib.hid hR
  have HA := Lib.hid ha
  have HBb := Lib.hid hb
  have G := Lib.hid hw
  have cap1 := ha.cap
  have cap2 := hb.cap
  have HI := Lib.hid hi
  have HT := Lib.hid hT
  have HC := Lib.hid hC
  have q1 := eq_val 9998 k a b k a b true (by simp)
  have q2 := eq_val 9998 0 0 0 0 0 0 true (by simp)
  have HE := Lib.hid he
  clear hm hB hbL hR ha hb hw hi hT hC he
  go_enter Tryd.func5, Tryd.ntmps5
  go_wp2_with fail
  have S0 := Lib.hid (((((Sx.start w).add fG G.out).add (fR A1 cA la) HA.out).add (fR A2 c2 lb) HBb.out).mkV k a b)
  refine (awake_any _ S0.out.2.2.2.2.1).mono ?_
  rintro e w1 ⟨rfl, hb1⟩
  have S1 := Lib.hid (S0.out.call hb1)
  clear hb1 S0 G HA HBb
  obtain ⟨-, ⟨z0, z1, z2, z3, -⟩, -⟩ := S1.out
  go_wp2_with fail
  refine (vbytes_v k a b 0 _ _ _ S1.out.2.2.2.2.1 HB.out).mono ?_
  rintro e w2 ⟨A3, c3, rfl, ho2, hb2⟩
  have S2 := Lib.hid ((S1.out.call hb2).add (fR A3 c3 L) (own_rd ho2 BL.out))
  clear hb2 ho2 S1 z0 z1 z2 z3
  obtain ⟨-, -, ⟨z0, z1, z2, z3, -⟩, -⟩ := S2.out
  go_wp2_with fail
  refine (vmay_v k a b true _ HM.out).mono ?_
  rintro e w3 ⟨rfl, hb3⟩
  have S3 := Lib.hid (S2.out.call hb3)
  clear hb3 S2 z0 z1 z2 z3
  have hown0 : (w3.alloc (.cells #[] 5)).ownsRow w3.heap.size 5 1 (.slice (some ⟨w3.heap.size, 0, none⟩) 0 0) 0 (cel []) := World.ownsRow_lit w3 #[] 0 (Nat.le_refl _) (Nat.zero_le _) rfl
  have k1 : (0 : Int) ≤ (la.length : Int) := by omega
  go_wp2_with (at_builtin; refine wpList_append_rd _ rfl (.tmp 58) (.tmp 59) 26 rfl w3.heap.size 5 i0 Tryd.underlying26 hi0 hz0 hz1 hz2 _ 0 [] rfl hown0 A1 la.length cA la rfl (Rd.alloc S3.out.2.2.2.2.1 _) rfl (by omega) (by simp) ?_)
  intro A4 c4 w4 ho4 _ hb4 _
  have O4 : Hid (w4.ownsRow w3.heap.size 5 1 (.slice A4 la.length c4) la.length (cel la)) := by simpa [Hid] using ho4
  have B4 := Lib.hid (new1.trans hb4)
  clear ho4 hb4 hown0
  go_wp2_with (at_builtin; refine wpList_append_rd _ rfl (.tmp 60) (.tmp 61) 26 rfl w3.heap.size 5 i0 Tryd.underlying26 hi0 hz0 hz1 hz2 _ la.length la rfl O4.out A3 9 c3 L rfl (Rd.keep S3.out.2.1 B4.out) HB.out.2.2.symm (by omega) B4.out.size ?_)
  intro A5 c5 w5 ho5 _ hb5 _
  have O5 := Lib.hid ho5
  have B5 := Lib.hid (B4.out.trans hb5)
  clear ho5 hb5 O4 B4
  go_wp2_with (at_builtin; refine wpList_append_rd _ rfl (.tmp 62) (.tmp 63) 26 rfl w3.heap.size 5 i0 Tryd.underlying26 hi0 hz0 hz1 hz2 _ (la.length + 9) (la ++ L) rfl O5.out A2 lb.length c2 lb rfl (Rd.keep S3.out.2.2.2.1 B5.out) rfl (by omega) B5.out.size ?_)
  intro A6 c6 w6 ho6 _ hb6 _
  have R6 := Lib.hid (own_rd ho6 (byt_append (Rd.byt S3.out.2.2.2.2.1) (byt_append BL.out (Rd.byt S3.out.2.2.2.1))))
  have S6 := Lib.hid (S3.out.call (B5.out.trans hb6))
  clear ho6 hb6 O5 B5 S3
  go_wp2_with fail
  refine (vread_m A6 _ c6 (la ++ (L ++ lb)) _ k a b _ 0 _ R6.out (by have := HB.out.2.2; simp; omega) S6.out.2.2.2.2.2.1 HT.out).mono ?_
  rintro e w7 ⟨rfl, hb7⟩
  have S7 := Lib.hid ((S6.out.call hb7).mkV k a b)
  clear hb7 S6 R6
  obtain ⟨-, -, -, ⟨z0, z1, z2, z3, -⟩, -⟩ := S7.out
  simp at z0 z1 z2 z3
  go_wp2_with fail
  refine (vins_v k a b true _ HI.out).mono ?_
  rintro e w8 ⟨rfl, hb8⟩
  have S8 := Lib.hid (S7.out.call hb8)
  clear hb8 S7 z0 z1 z2 z3
  have m3 : (8 : Int) ≤ (c3 : Int) := by have := Rd.le S8.out.2.2.1; have := HB.out.2.2; omega
  go_wp2_with fail
  refine (vread_m A3 8 c3 (L.take 8) 0 0 0 0 0 10 _ (Rd.pre S8.out.2.2.1 8) (by have := HB.out.2.2; rw [List.length_take]; omega) S8.out.2.2.2.2.2.2.1 HC.out).mono ?_
  rintro e w9 ⟨rfl, hb9⟩
  have S9 := Lib.hid ((S8.out.call hb9).mkV 0 0 0)
  clear hb9 S8 m3
  go_wp2_with fail
  refine (vread_v A2 c2 lb p 0 0 0 _ _ _ S9.out.2.2.2.2.2.1 S9.out.2.2.2.2.2.2.2.1 HR.out).mono ?_
  rintro e wr ⟨rfl, hbr⟩
  have SR := Lib.hid ((S9.out.call hbr).mkV 0 0 0)
  clear hbr S9
  have he := HE.out
  go_wp2_with fail
  go_ret
  exact ⟨rfl, SR.out.1⟩
set_option maxRecDepth 100000 in
set_option maxHeartbeats 1500000 in
theorem back_9o (k a b : Int) (L : List Int) (A1 A2 : Option Addr) (cA c2 : Nat) (la lb : List Int) (k2 a2 b2 : Int) (L2 : List Int) (q n2 : Nat) (w : World) (ha : Rd w A1 cA la) (hb : Rd w A2 c2 lb) (hw : GW w) (hm : mayB k a b = true) (hB : bytE k a b = 0 ∧ bytL k a b = L ∧ L.length = 9) (hbL : Byt L) (hla : (la.length : Int) ≤ 300) (hlb : (lb.length : Int) ≤ 300) (hi : insB k a b = true) (hT : rdT (la ++ (L ++ lb)) (la.length : Int) = (k, a, b, (la.length : Int) + 9, 0)) (hC : rdT (L.take 8) 0 = (0, 0, 0, 0, 10)) (hR : rdT lb (q : Int) = (k2, a2, b2, (q : Int) + (n2 : Int), 0)) (hm2 : mayB k2 a2 b2 = true) (hB2 : bytE k2 a2 b2 = 0 ∧ bytL k2 a2 b2 = L2 ∧ L2.length = n2) (hbL2 : Byt L2) (hq : q + n2 ≤ lb.length) (hL2 : (lb.drop q).take n2 = L2) :
    Calls Tryd.prog 5 #[.agg #[.int .u8 k, .int .i64 a, .int .i64 b], .slice A1 la.length cA, .slice A2 lb.length c2, .int .i64 (q : Int)] w fun e w' => e = .returned (.bool true) ∧ Below w.heap.size w w' := by
  obtain ⟨i0, hi0, hz0, hz1, hz2⟩ := info_parts Tryd.info5
  have HM := Lib.hid hm
  have HB := Lib.hid hB
  have BL := Lib.hid hbL
  have HR := Lib.hid hR
  have HA := Lib.hid ha
  have HBb := Lib.hid hb
  have G := Lib.hid hw
  have cap1 := ha.cap
  have cap2 := hb.cap
  have HI := Lib.hid hi
  have HT := Lib.hid hT
  have HC := Lib.hid hC
  have q1 := eq_val 9998 k a b k a b true (by simp)
  have HM2 := Lib.hid hm2
  have HB2 := Lib.hid hB2
  have BL2 := Lib.hid hbL2
  obtain ⟨A', c', hsl, hrs⟩ := slice_run A2 c2 lb q (q + n2) (by omega) hq HBb.out.le
  have hsub : q + n2 - q = n2 := by omega
  rw [hsub] at hsl hrs
  rw [hL2] at hrs
  have e3 : ((q + n2 : Nat) : Int) = (q : Int) + (n2 : Int) := by omega
  rw [e3] at hsl
  have HRS := Lib.hid hrs
  obtain ⟨s, hs⟩ : ∃ s, strOfNums L2 = s := ⟨_, rfl⟩
  have HS := Lib.hid hs
  have j0 : (0 : Int) ≤ (q : Int) := by omega
  have j1 : (q : Int) ≤ (lb.length : Int) := by omega
  have j2 : (q : Int) + (n2 : Int) ≤ (lb.length : Int) := by omega
  have j3 : IntKind.i64.wrap ((q : Int) + (n2 : Int)) = (q : Int) + (n2 : Int) := IntWalk.i64_in _ (by omega)
  have J0 := Lib.hid j0
  have J1 := Lib.hid j1
  have J2 := Lib.hid j2
  have J3 := Lib.hid j3
  have HSL := Lib.hid hsl
  clear hm hB hbL hR ha hb hw hi hT hC hm2 hB2 hbL2 hrs hsub hL2 e3 hs hq j0 j1 j2 j3 hsl
  go_enter Tryd.func5, Tryd.ntmps5
  go_wp2_with fail
  have S0 := Lib.hid (((((Sx.start w).add fG G.out).add (fR A1 cA la) HA.out).add (fR A2 c2 lb) HBb.out).mkV k a b)
  refine (awake_any _ S0.out.2.2.2.2.1).mono ?_
  rintro e w1 ⟨rfl, hb1⟩
  have S1 := Lib.hid (S0.out.call hb1)
  clear hb1 S0 G HA HBb
  obtain ⟨-, ⟨z0, z1, z2, z3, -⟩, -⟩ := S1.out
  go_wp2_with fail
  refine (vbytes_v k a b 0 _ _ _ S1.out.2.2.2.2.1 HB.out).mono ?_
  rintro e w2 ⟨A3, c3, rfl, ho2, hb2⟩
  have S2 := Lib.hid ((S1.out.call hb2).add (fR A3 c3 L) (own_rd ho2 BL.out))
  clear hb2 ho2 S1 z0 z1 z2 z3
  obtain ⟨-, -, ⟨z0, z1, z2, z3, -⟩, -⟩ := S2.out
  go_wp2_with fail
  refine (vmay_v k a b true _ HM.out).mono ?_
  rintro e w3 ⟨rfl, hb3⟩
  have S3 := Lib.hid (S2.out.call hb3)
  clear hb3 S2 z0 z1 z2 z3
  have hown0 : (w3.alloc (.cells #[] 5)).ownsRow w3.heap.size 5 1 (.slice (some ⟨w3.heap.size, 0, none⟩) 0 0) 0 (cel []) := World.ownsRow_lit w3 #[] 0 (Nat.le_refl _) (Nat.zero_le _) rfl
  have k1 : (0 : Int) ≤ (la.length : Int) := by omega
  go_wp2_with (at_builtin; refine wpList_append_rd _ rfl (.tmp 58) (.tmp 59) 26 rfl w3.heap.size 5 i0 Tryd.underlying26 hi0 hz0 hz1 hz2 _ 0 [] rfl hown0 A1 la.length cA la rfl (Rd.alloc S3.out.2.2.2.2.1 _) rfl (by omega) (by simp) ?_)
  intro A4 c4 w4 ho4 _ hb4 _
  have O4 : Hid (w4.ownsRow w3.heap.size 5 1 (.slice A4 la.length c4) la.length (cel la)) := by simpa [Hid] using ho4
  have B4 := Lib.hid (new1.trans hb4)
  clear ho4 hb4 hown0
  go_wp2_with (at_builtin; refine wpList_append_rd _ rfl (.tmp 60) (.tmp 61) 26 rfl w3.heap.size 5 i0 Tryd.underlying26 hi0 hz0 hz1 hz2 _ la.length la rfl O4.out A3 9 c3 L rfl (Rd.keep S3.out.2.1 B4.out) HB.out.2.2.symm (by omega) B4.out.size ?_)
  intro A5 c5 w5 ho5 _ hb5 _
  have O5 := Lib.hid ho5
  have B5 := Lib.hid (B4.out.trans hb5)
  clear ho5 hb5 O4 B4
  go_wp2_with (at_builtin; refine wpList_append_rd _ rfl (.tmp 62) (.tmp 63) 26 rfl w3.heap.size 5 i0 Tryd.underlying26 hi0 hz0 hz1 hz2 _ (la.length + 9) (la ++ L) rfl O5.out A2 lb.length c2 lb rfl (Rd.keep S3.out.2.2.2.1 B5.out) rfl (by omega) B5.out.size ?_)
  intro A6 c6 w6 ho6 _ hb6 _
  have R6 := Lib.hid (own_rd ho6 (byt_append (Rd.byt S3.out.2.2.2.2.1) (byt_append BL.out (Rd.byt S3.out.2.2.2.1))))
  have S6 := Lib.hid (S3.out.call (B5.out.trans hb6))
  clear ho6 hb6 O5 B5 S3
  go_wp2_with fail
  refine (vread_m A6 _ c6 (la ++ (L ++ lb)) _ k a b _ 0 _ R6.out (by have := HB.out.2.2; simp; omega) S6.out.2.2.2.2.2.1 HT.out).mono ?_
  rintro e w7 ⟨rfl, hb7⟩
  have S7 := Lib.hid ((S6.out.call hb7).mkV k a b)
  clear hb7 S6 R6
  obtain ⟨-, -, -, ⟨z0, z1, z2, z3, -⟩, -⟩ := S7.out
  simp at z0 z1 z2 z3
  go_wp2_with fail
  refine (vins_v k a b true _ HI.out).mono ?_
  rintro e w8 ⟨rfl, hb8⟩
  have S8 := Lib.hid (S7.out.call hb8)
  clear hb8 S7 z0 z1 z2 z3
  have m3 : (8 : Int) ≤ (c3 : Int) := by have := Rd.le S8.out.2.2.1; have := HB.out.2.2; omega
  go_wp2_with fail
  refine (vread_m A3 8 c3 (L.take 8) 0 0 0 0 0 10 _ (Rd.pre S8.out.2.2.1 8) (by have := HB.out.2.2; rw [List.length_take]; omega) S8.out.2.2.2.2.2.2.1 HC.out).mono ?_
  rintro e w9 ⟨rfl, hb9⟩
  have S9 := Lib.hid ((S8.out.call hb9).mkV 0 0 0)
  clear hb9 S8 m3
  go_wp2_with fail
  refine (vread_v A2 c2 lb (q : Int) k2 a2 b2 _ _ _ S9.out.2.2.2.2.2.1 S9.out.2.2.2.2.2.2.2.1 HR.out).mono ?_
  rintro e wr ⟨rfl, hbr⟩
  have SR := Lib.hid ((S9.out.call hbr).mkV k2 a2 b2)
  clear hbr S9
  go_wp2_with fail
  refine (vbytes_v k2 a2 b2 0 _ _ _ SR.out.2.2.2.2.2.2.2.2.1 HB2.out).mono ?_
  rintro e wb ⟨A8, c8, rfl, ho8, hb8⟩
  have SB := Lib.hid ((SR.out.call hb8).add (fR A8 c8 L2) (own_rd ho8 BL2.out))
  clear hb8 ho8 SR
  go_upto_region 19 with (fail)
  have j0 := J0.out
  have j1 := J1.out
  have j2 := J2.out
  have j3 := J3.out
  have hsl := HSL.out
  refine wp_region_held_drew (S := fun w' => Hid (Below wb.heap.size wb w')) (by kernel_rfl) (Lib.hid (below_draws (Below.refl _ _) 1)) (fun hHeld => ?_)
  refine wpAnyH_take (i := 0) (v := ?_) rfl (by kernel_rfl) (by kernel_rfl) (by kernel_rfl) (fun _ _ _ h => h) (Or.inl ⟨by rfl, ?_⟩) (by assumption) ?_
  rotate_left 1
  · intro w _; go_simp; try with_reducible rfl
  try simp only [Act.put, List.getElem_toArray, List.getElem_cons_zero, List.getElem_cons_succ, List.setIfInBounds_toArray, List.set_cons_zero, List.set_cons_succ]
  refine wpAnyH_take (i := 1) (v := ?_) rfl (by kernel_rfl) (by kernel_rfl) (by kernel_rfl) (fun _ _ _ h => h) (Or.inl ⟨by rfl, ?_⟩) (by assumption) ?_
  rotate_left 1
  · intro w _; go_simp; try with_reducible rfl
  try simp only [Act.put, List.getElem_toArray, List.getElem_cons_zero, List.getElem_cons_succ, List.setIfInBounds_toArray, List.set_cons_zero, List.set_cons_succ]
  refine wpAnyH_take (i := 2) (v := ?_) rfl (by kernel_rfl) (by kernel_rfl) (by kernel_rfl) (fun _ _ _ h => h) (Or.inl ⟨by rfl, ?_⟩) (by assumption) ?_
  rotate_left 1
  · intro w _; go_simp; try with_reducible rfl
  try simp only [Act.put, List.getElem_toArray, List.getElem_cons_zero, List.getElem_cons_succ, List.setIfInBounds_toArray, List.set_cons_zero, List.set_cons_succ]
  refine wpAnyH_take (i := 3) (v := ?_) rfl (by kernel_rfl) (by kernel_rfl) (by kernel_rfl) (fun _ _ _ h => h) (Or.inl ⟨by rfl, ?_⟩) (by assumption) ?_
  rotate_left 1
  · intro w hSw; (try dsimp only at hSw); obtain ⟨-, -, ⟨-, s1, s2, s3, -⟩, -⟩ := SB.out.call hSw.out; go_simp; try with_reducible rfl
  try simp only [Act.put, List.getElem_toArray, List.getElem_cons_zero, List.getElem_cons_succ, List.setIfInBounds_toArray, List.set_cons_zero, List.set_cons_succ]
  refine wpAnyH_ready (rs := [4]) (by kernel_rfl) (by simp) ?_
  refine AllReadyH.cons rfl (fun K hK => ?_) AllReadyH.nil
  go_simp
  refine (vmay_v k2 a2 b2 true _ HM2.out).mono ?_
  rintro e w' ⟨rfl, hb⟩
  go_wp2_with fail
  refine hK.out _ _ (Lib.hid (below_on hHeld.out hb)) (fun hHeld => ?_)
  clear hK K
  try simp only [Act.put, List.getElem_toArray, List.getElem_cons_zero, List.getElem_cons_succ, List.setIfInBounds_toArray, List.set_cons_zero, List.set_cons_succ]
  refine wpAnyH_take (i := 5) (v := ?_) rfl (by kernel_rfl) (by kernel_rfl) (by kernel_rfl) (fun _ _ _ h => h) (Or.inl ⟨by rfl, ?_⟩) (by assumption) ?_
  rotate_left 1
  · intro w _; go_simp; try with_reducible rfl
  try simp only [Act.put, List.getElem_toArray, List.getElem_cons_zero, List.getElem_cons_succ, List.setIfInBounds_toArray, List.set_cons_zero, List.set_cons_succ]
  refine wpAnyH_take (i := 6) (v := ?_) rfl (by kernel_rfl) (by kernel_rfl) (by kernel_rfl) (fun _ _ _ h => h) (Or.inl ⟨by rfl, ?_⟩) (by assumption) ?_
  rotate_left 1
  · intro w _; go_simp; try with_reducible rfl
  try simp only [Act.put, List.getElem_toArray, List.getElem_cons_zero, List.getElem_cons_succ, List.setIfInBounds_toArray, List.set_cons_zero, List.set_cons_succ]
  refine wpAnyH_take (i := 7) (v := ?_) rfl (by kernel_rfl) (by kernel_rfl) (by kernel_rfl) (fun _ _ _ h => h) (Or.inl ⟨by rfl, ?_⟩) (by assumption) ?_
  rotate_left 1
  · intro w _; go_simp; try with_reducible rfl
  try simp only [Act.put, List.getElem_toArray, List.getElem_cons_zero, List.getElem_cons_succ, List.setIfInBounds_toArray, List.set_cons_zero, List.set_cons_succ]
  refine wpAnyH_take (i := 8) (v := ?_) rfl (by kernel_rfl) (by kernel_rfl) (by kernel_rfl) (fun _ _ _ h => h) (Or.inl ⟨by rfl, ?_⟩) (by assumption) ?_
  rotate_left 1
  · intro w _; go_simp; try with_reducible rfl
  try simp only [Act.put, List.getElem_toArray, List.getElem_cons_zero, List.getElem_cons_succ, List.setIfInBounds_toArray, List.set_cons_zero, List.set_cons_succ]
  refine wpAnyH_take (i := 9) (v := ?_) rfl (by kernel_rfl) (by kernel_rfl) (by kernel_rfl) (fun _ _ _ h => h) (Or.inl ⟨by rfl, ?_⟩) (by assumption) ?_
  rotate_left 1
  · intro w _; go_simp; try with_reducible rfl
  try simp only [Act.put, List.getElem_toArray, List.getElem_cons_zero, List.getElem_cons_succ, List.setIfInBounds_toArray, List.set_cons_zero, List.set_cons_succ]
  refine wpAnyH_take (i := 10) (v := ?_) rfl (by kernel_rfl) (by kernel_rfl) (by kernel_rfl) (fun _ _ _ h => h) (Or.inl ⟨by rfl, ?_⟩) (by assumption) ?_
  rotate_left 1
  · intro w _; go_simp; try with_reducible rfl
  try simp only [Act.put, List.getElem_toArray, List.getElem_cons_zero, List.getElem_cons_succ, List.setIfInBounds_toArray, List.set_cons_zero, List.set_cons_succ]
  refine wpAnyH_take (i := 11) (v := ?_) rfl (by kernel_rfl) (by kernel_rfl) (by kernel_rfl) (fun _ _ _ h => h) (Or.inl ⟨by rfl, ?_⟩) (by assumption) ?_
  rotate_left 1
  · intro w _; go_simp; try with_reducible rfl
  try simp only [Act.put, List.getElem_toArray, List.getElem_cons_zero, List.getElem_cons_succ, List.setIfInBounds_toArray, List.set_cons_zero, List.set_cons_succ]
  refine wpAnyH_take (i := 12) (v := ?_) rfl (by kernel_rfl) (by kernel_rfl) (by kernel_rfl) (fun _ _ _ h => h) (Or.inl ⟨by rfl, ?_⟩) (by assumption) ?_
  rotate_left 1
  · intro w _; go_simp; try with_reducible rfl
  try simp only [Act.put, List.getElem_toArray, List.getElem_cons_zero, List.getElem_cons_succ, List.setIfInBounds_toArray, List.set_cons_zero, List.set_cons_succ]
  refine wpAnyH_take (i := 13) (v := ?_) rfl (by kernel_rfl) (by kernel_rfl) (by kernel_rfl) (fun _ _ _ h => h) (Or.inl ⟨by rfl, ?_⟩) (by assumption) ?_
  rotate_left 1
  · intro w _; go_simp; try with_reducible rfl
  try simp only [Act.put, List.getElem_toArray, List.getElem_cons_zero, List.getElem_cons_succ, List.setIfInBounds_toArray, List.set_cons_zero, List.set_cons_succ]
  refine wpAnyH_take (i := 14) (v := ?_) rfl (by kernel_rfl) (by kernel_rfl) (by kernel_rfl) (fun _ _ _ h => h) (Or.inl ⟨by rfl, ?_⟩) (by assumption) ?_
  rotate_left 1
  · intro w _; go_simp; try with_reducible rfl
  try simp only [Act.put, List.getElem_toArray, List.getElem_cons_zero, List.getElem_cons_succ, List.setIfInBounds_toArray, List.set_cons_zero, List.set_cons_succ]
  refine wpAnyH_take (i := 15) (v := ?_) rfl (by kernel_rfl) (by kernel_rfl) (by kernel_rfl) (fun _ _ _ h => h) (Or.inl ⟨by rfl, ?_⟩) (by assumption) ?_
  rotate_left 1
  · intro w _; go_simp; try with_reducible rfl
  try simp only [Act.put, List.getElem_toArray, List.getElem_cons_zero, List.getElem_cons_succ, List.setIfInBounds_toArray, List.set_cons_zero, List.set_cons_succ]
  refine wpAnyH_take (i := 16) (v := ?_) rfl (by kernel_rfl) (by kernel_rfl) (by kernel_rfl) (fun _ _ _ h => h) (Or.inl ⟨by rfl, ?_⟩) (by assumption) ?_
  rotate_left 1
  · intro w _; go_simp; try with_reducible rfl
  try simp only [Act.put, List.getElem_toArray, List.getElem_cons_zero, List.getElem_cons_succ, List.setIfInBounds_toArray, List.set_cons_zero, List.set_cons_succ]
  refine wpAnyH_take (i := 17) (v := ?_) rfl (by kernel_rfl) (by kernel_rfl) (by kernel_rfl) (fun _ _ _ h => h) (Or.inl ⟨by rfl, ?_⟩) (by assumption) ?_
  rotate_left 1
  · intro w _; go_simp; try with_reducible rfl
  try simp only [Act.put, List.getElem_toArray, List.getElem_cons_zero, List.getElem_cons_succ, List.setIfInBounds_toArray, List.set_cons_zero, List.set_cons_succ]
  refine wpAnyH_take (i := 18) (v := ?_) rfl (by kernel_rfl) (by kernel_rfl) (by kernel_rfl) (fun _ _ _ h => h) (Or.inl ⟨by rfl, ?_⟩) (by assumption) ?_
  rotate_left 1
  · intro w _; go_simp; try with_reducible rfl
  try simp only [Act.put, List.getElem_toArray, List.getElem_cons_zero, List.getElem_cons_succ, List.setIfInBounds_toArray, List.set_cons_zero, List.set_cons_succ]
  refine wpAnyH_take (i := 19) (v := ?_) rfl (by kernel_rfl) (by kernel_rfl) (by kernel_rfl) (fun _ _ _ h => h) (Or.inl ⟨by rfl, ?_⟩) (by assumption) ?_
  rotate_left 1
  · intro w _; go_simp; try with_reducible rfl
  try simp only [Act.put, List.getElem_toArray, List.getElem_cons_zero, List.getElem_cons_succ, List.setIfInBounds_toArray, List.set_cons_zero, List.set_cons_succ]
  refine wpAnyH_take (i := 20) (v := ?_) rfl (by kernel_rfl) (by kernel_rfl) (by kernel_rfl) (fun _ _ _ h => h) (Or.inl ⟨by rfl, ?_⟩) (by assumption) ?_
  rotate_left 1
  · intro w _; go_simp; try with_reducible rfl
  try simp only [Act.put, List.getElem_toArray, List.getElem_cons_zero, List.getElem_cons_succ, List.setIfInBounds_toArray, List.set_cons_zero, List.set_cons_succ]
  refine wpAnyH_take (i := 21) (v := ?_) rfl (by kernel_rfl) (by kernel_rfl) (by kernel_rfl) (fun _ _ _ h => h) (Or.inl ⟨by rfl, ?_⟩) (by assumption) ?_
  rotate_left 1
  · intro w _; go_simp; try with_reducible rfl
  try simp only [Act.put, List.getElem_toArray, List.getElem_cons_zero, List.getElem_cons_succ, List.setIfInBounds_toArray, List.set_cons_zero, List.set_cons_succ]
  refine wpAnyH_take (i := 22) (v := ?_) rfl (by kernel_rfl) (by kernel_rfl) (by kernel_rfl) (fun _ _ _ h => h) (Or.inl ⟨by rfl, ?_⟩) (by assumption) ?_
  rotate_left 1
  · intro w _; go_simp; try with_reducible rfl
  try simp only [Act.put, List.getElem_toArray, List.getElem_cons_zero, List.getElem_cons_succ, List.setIfInBounds_toArray, List.set_cons_zero, List.set_cons_succ]
  refine wpAnyH_take (i := 23) (v := ?_) rfl (by kernel_rfl) (by kernel_rfl) (by kernel_rfl) (fun _ _ _ h => h) (Or.inl ⟨by rfl, ?_⟩) (by assumption) ?_
  rotate_left 1
  · intro w _; go_simp; try with_reducible rfl
  try simp only [Act.put, List.getElem_toArray, List.getElem_cons_zero, List.getElem_cons_succ, List.setIfInBounds_toArray, List.set_cons_zero, List.set_cons_succ]
  refine wpAnyH_take (i := 24) (v := ?_) rfl (by kernel_rfl) (by kernel_rfl) (by kernel_rfl) (fun _ _ _ h => h) (Or.inl ⟨by rfl, ?_⟩) (by assumption) ?_
  rotate_left 1
  · intro w _; go_simp; try with_reducible rfl
  try simp only [Act.put, List.getElem_toArray, List.getElem_cons_zero, List.getElem_cons_succ, List.setIfInBounds_toArray, List.set_cons_zero, List.set_cons_succ]
  refine wpAnyH_take (i := 25) (v := ?_) rfl (by kernel_rfl) (by kernel_rfl) (by kernel_rfl) (fun _ _ _ h => h) (Or.inl ⟨by rfl, ?_⟩) (by assumption) ?_
  rotate_left 1
  · intro w _; go_simp; try with_reducible rfl
  try simp only [Act.put, List.getElem_toArray, List.getElem_cons_zero, List.getElem_cons_succ, List.setIfInBounds_toArray, List.set_cons_zero, List.set_cons_succ]
  refine wpAnyH_take (i := 26) (v := ?_) rfl (by kernel_rfl) (by kernel_rfl) (by kernel_rfl) (fun _ _ _ h => h) (Or.inl ⟨by rfl, ?_⟩) (by assumption) ?_
  rotate_left 1
  · intro w _; go_simp; try with_reducible rfl
  try simp only [Act.put, List.getElem_toArray, List.getElem_cons_zero, List.getElem_cons_succ, List.setIfInBounds_toArray, List.set_cons_zero, List.set_cons_succ]
  refine wpAnyH_take (i := 27) (v := ?_) rfl (by kernel_rfl) (by kernel_rfl) (by kernel_rfl) (fun _ _ _ h => h) (Or.inl ⟨by rfl, ?_⟩) (by assumption) ?_
  rotate_left 1
  · intro w _; go_simp; try with_reducible rfl
  try simp only [Act.put, List.getElem_toArray, List.getElem_cons_zero, List.getElem_cons_succ, List.setIfInBounds_toArray, List.set_cons_zero, List.set_cons_succ]
  refine wpAnyH_take (i := 28) (v := ?_) rfl (by kernel_rfl) (by kernel_rfl) (by kernel_rfl) (fun _ _ _ h => h) (Or.inl ⟨by rfl, ?_⟩) (by assumption) ?_
  rotate_left 1
  · intro w _; go_simp; try with_reducible rfl
  try simp only [Act.put, List.getElem_toArray, List.getElem_cons_zero, List.getElem_cons_succ, List.setIfInBounds_toArray, List.set_cons_zero, List.set_cons_succ]
  refine wpAnyH_take (i := 29) (v := ?_) rfl (by kernel_rfl) (by kernel_rfl) (by kernel_rfl) (fun _ _ _ h => h) (Or.inl ⟨by rfl, ?_⟩) (by assumption) ?_
  rotate_left 1
  · intro w _; go_simp; try with_reducible rfl
  try simp only [Act.put, List.getElem_toArray, List.getElem_cons_zero, List.getElem_cons_succ, List.setIfInBounds_toArray, List.set_cons_zero, List.set_cons_succ]
  refine wpAnyH_take (i := 30) (v := ?_) rfl (by kernel_rfl) (by kernel_rfl) (by kernel_rfl) (fun _ _ _ h => h) (Or.inl ⟨by rfl, ?_⟩) (by assumption) ?_
  rotate_left 1
  · intro w _; go_simp; try with_reducible rfl
  try simp only [Act.put, List.getElem_toArray, List.getElem_cons_zero, List.getElem_cons_succ, List.setIfInBounds_toArray, List.set_cons_zero, List.set_cons_succ]
  refine wpAnyH_take (i := 31) (v := ?_) rfl (by kernel_rfl) (by kernel_rfl) (by kernel_rfl) (fun _ _ _ h => h) (Or.inl ⟨by rfl, ?_⟩) (by assumption) ?_
  rotate_left 1
  · intro w _; go_simp; try with_reducible rfl
  try simp only [Act.put, List.getElem_toArray, List.getElem_cons_zero, List.getElem_cons_succ, List.setIfInBounds_toArray, List.set_cons_zero, List.set_cons_succ]
  refine wpAnyH_take (i := 32) (v := ?_) rfl (by kernel_rfl) (by kernel_rfl) (by kernel_rfl) (fun _ _ _ h => h) (Or.inl ⟨by rfl, ?_⟩) (by assumption) ?_
  rotate_left 1
  · intro w hSw; (try dsimp only at hSw); have h5 := SB.out.2.1; have h6 := rd_string (P := Tryd.prog) (Rd.keep h5 hSw.out) 26 9 5 Tryd.underlying26 Tryd.underlying5 Tryd.underlying9; rw [HB2.out.2.2, HS.out] at h6; clear h5 hSw; go_simp; try with_reducible rfl
  try simp only [Act.put, List.getElem_toArray, List.getElem_cons_zero, List.getElem_cons_succ, List.setIfInBounds_toArray, List.set_cons_zero, List.set_cons_succ]
  refine wpAnyH_take (i := 33) (v := ?_) rfl (by kernel_rfl) (by kernel_rfl) (by kernel_rfl) (fun _ _ _ h => h) (Or.inl ⟨by rfl, ?_⟩) (by assumption) ?_
  rotate_left 1
  · intro w _; go_simp; try with_reducible rfl
  try simp only [Act.put, List.getElem_toArray, List.getElem_cons_zero, List.getElem_cons_succ, List.setIfInBounds_toArray, List.set_cons_zero, List.set_cons_succ]
  refine wpAnyH_take (i := 34) (v := ?_) rfl (by kernel_rfl) (by kernel_rfl) (by kernel_rfl) (fun _ _ _ h => h) (Or.inl ⟨by rfl, ?_⟩) (by assumption) ?_
  rotate_left 1
  · intro w _; go_simp; try with_reducible rfl
  try simp only [Act.put, List.getElem_toArray, List.getElem_cons_zero, List.getElem_cons_succ, List.setIfInBounds_toArray, List.set_cons_zero, List.set_cons_succ]
  refine wpAnyH_take (i := 35) (v := ?_) rfl (by kernel_rfl) (by kernel_rfl) (by kernel_rfl) (fun _ _ _ h => h) (Or.inl ⟨by rfl, ?_⟩) (by assumption) ?_
  rotate_left 1
  · intro w _; go_simp; try with_reducible rfl
  try simp only [Act.put, List.getElem_toArray, List.getElem_cons_zero, List.getElem_cons_succ, List.setIfInBounds_toArray, List.set_cons_zero, List.set_cons_succ]
  refine wpAnyH_take (i := 36) (v := ?_) rfl (by kernel_rfl) (by kernel_rfl) (by kernel_rfl) (fun _ _ _ h => h) (Or.inl ⟨by rfl, ?_⟩) (by assumption) ?_
  rotate_left 1
  · intro w _; go_simp; try with_reducible rfl
  try simp only [Act.put, List.getElem_toArray, List.getElem_cons_zero, List.getElem_cons_succ, List.setIfInBounds_toArray, List.set_cons_zero, List.set_cons_succ]
  refine wpAnyH_take (i := 37) (v := ?_) rfl (by kernel_rfl) (by kernel_rfl) (by kernel_rfl) (fun _ _ _ h => h) (Or.inl ⟨by rfl, ?_⟩) (by assumption) ?_
  rotate_left 1
  · intro w hSw; (try dsimp only at hSw); have h5 := SB.out.2.2.2.2.2.2.2.1; have h6 := rd_string (P := Tryd.prog) (HRS.out _ (Rd.keep h5 hSw.out)) 26 9 5 Tryd.underlying26 Tryd.underlying5 Tryd.underlying9; rw [HB2.out.2.2, HS.out] at h6; clear h5 hSw; go_simp; try with_reducible rfl
  try simp only [Act.put, List.getElem_toArray, List.getElem_cons_zero, List.getElem_cons_succ, List.setIfInBounds_toArray, List.set_cons_zero, List.set_cons_succ]
  refine wpAnyH_take (i := 38) (v := ?_) rfl (by kernel_rfl) (by kernel_rfl) (by kernel_rfl) (fun _ _ _ h => h) (Or.inl ⟨by rfl, ?_⟩) (by assumption) ?_
  rotate_left 1
  · intro w _; go_simp; try with_reducible rfl
  try simp only [Act.put, List.getElem_toArray, List.getElem_cons_zero, List.getElem_cons_succ, List.setIfInBounds_toArray, List.set_cons_zero, List.set_cons_succ]
  refine wpAnyH_take (i := 39) (v := ?_) rfl (by kernel_rfl) (by kernel_rfl) (by kernel_rfl) (fun _ _ _ h => h) (Or.inl ⟨by rfl, ?_⟩) (by assumption) ?_
  rotate_left 1
  · intro w _; go_simp; try with_reducible rfl
  try simp only [Act.put, List.getElem_toArray, List.getElem_cons_zero, List.getElem_cons_succ, List.setIfInBounds_toArray, List.set_cons_zero, List.set_cons_succ]
  refine wpAnyH_take (i := 40) (v := ?_) rfl (by kernel_rfl) (by kernel_rfl) (by kernel_rfl) (fun _ _ _ h => h) (Or.inl ⟨by rfl, ?_⟩) (by assumption) ?_
  rotate_left 1
  · intro w _; go_simp; try with_reducible rfl
  try simp only [Act.put, List.getElem_toArray, List.getElem_cons_zero, List.getElem_cons_succ, List.setIfInBounds_toArray, List.set_cons_zero, List.set_cons_succ]
  refine wpAnyH_done (by kernel_rfl) ?_ _
  have HF := Lib.hid (below_on SB.out.1 hHeld.out)
  clear hHeld j0 j1 j2 j3 hsl
  go_wp2_with fail
  go_ret
  exact ⟨rfl, HF.out⟩
end Go.Proofs.YtndgiehipajghaaDoor
