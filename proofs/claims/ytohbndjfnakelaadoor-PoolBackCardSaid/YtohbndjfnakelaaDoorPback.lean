/-
  The walk of PoolBack over its contracts, a theorem a way; nothing that was there has changed.
-/
import Derived.Test.YtohbndjfnakelaaDoorPawake
import Derived.Test.YtohbndjfnakelaaDoorPmt
namespace Go.Proofs.YtohbndjfnakelaaDoor
open Go.RowKit
set_option maxRecDepth 100000
set_option linter.unusedSimpArgs false
set_option linter.unusedVariables false

theorem info_p {o : Option TypeInfo} (h : o.map (fun i => (i.zero, i.size, i.bytes)) = some (some (.int .u8 0), 1, 1)) : ∃ i, o = some i ∧ i.zero = some (.int .u8 0) ∧ i.size = 1 ∧ i.bytes = 1 := by
  rw [Option.map_eq_some_iff] at h
  obtain ⟨i, hi, hz⟩ := h
  simp only [Prod.mk.injEq] at hz
  exact ⟨i, hi, hz.1, hz.2.1, hz.2.2⟩
set_option maxRecDepth 100000 in
set_option maxHeartbeats 4000000 in
theorem pback_gk (F : Fct) (KM : KPMay F) (KB : KPBytes F) (KR : KPRead F) (KA : KPAdd F) (A A1 A2 : Option Addr) (c c1 c2 : Nat) (L : List Vlu) (la lb B : List Int) (M : List Vlu) (C : List Int) (q nC : Nat) (w : World) (hw : F.p w) (hr : Rv w A c L) (ha : Rd w A1 c1 la) (hb : Rd w A2 c2 lb) (hl : L.length ≤ 1000 ∧ la.length ≤ 300 ∧ lb.length ≤ 1500)
    (hB : poL L = B ∧ poE L = 0) (hv : poM L = true) (hbB : Byt B) (hBl : B.length ≤ 1000) (hX : rdP (la ++ (B ++ lb)) la.length = (L, ((la.length + B.length : Nat) : Int), 0)) (hCU : rdP (B.take (B.length - 1)) 0 = ([], 0, 10)) (hBp : 1 ≤ B.length) (hR : rdP lb (q : Int) = (M, ((q + nC : Nat) : Int), 0)) (hM : poL M = C ∧ poE M = 0 ∧ C.length = nC) (hvM : poM M = true) (hMl : M.length ≤ 1000) (hbC : Byt C) (hq : q + nC ≤ lb.length) (hC : (lb.drop q).take nC = C) :
    Calls Tryd.prog 5 #[.slice A L.length c, .slice A1 la.length c1, .slice A2 lb.length c2, .int .i64 (q : Int)] w fun e w' => e = .returned (.bool true) ∧ Below w.heap.size w w' := by
  obtain ⟨i0, hi, hz0, hz1, hz2⟩ := info_p Tryd.info5
  have HB := Lib.hid hB
  have HV := Lib.hid hv
  have BB := Lib.hid hbB
  have HR := Lib.hid hR
  have cap0 := hr.len
  have cap1 := ha.cap
  have cap2 := hb.cap
  have cpa := ha.le
  have cpb := hb.le
  have S0 := Lib.hid (((((Sx.start w).add F hw).add (fW A c L) hr).add (fR A1 c1 la) ha).add (fR A2 c2 lb) hb)
  have HX := Lib.hid hX
  have HCU := Lib.hid hCU
  have HM := Lib.hid hM
  have HVM := Lib.hid hvM
  have BC := Lib.hid hbC
  obtain ⟨A', c', hsl, hrs⟩ := slice_run A2 c2 lb q (q + nC) (by omega) hq cpb
  have hsub : q + nC - q = nC := by omega
  rw [hsub] at hsl hrs
  rw [hC] at hrs
  have e3 : ((q + nC : Nat) : Int) = (q : Int) + (nC : Int) := by omega
  rw [e3] at hsl
  have HRS := Lib.hid hrs
  obtain ⟨s, hs⟩ : ∃ s, strOfNums C = s := ⟨_, rfl⟩
  have HS := Lib.hid hs
  have HSL := Lib.hid hsl
  have HQ := Lib.hid hq
  clear hB hv hbB hR hw hr ha hb hX hCU hM hvM hbC hrs hsub hC e3 hs hq hsl
  go_enter Tryd.func5, Tryd.ntmps5
  go_wp2_with fail
  refine (pawake_any F KB KR KA _ S0.out.2.2.2.2.1).mono ?_
  rintro e w1 ⟨rfl, hb1⟩
  have S1 := Lib.hid (S0.out.call hb1)
  clear S0 hb1
  go_wp2_with fail
  refine (KB _ _ _ L _ S1.out.2.2.2.2.1 S1.out.2.2.2.1 rfl (by omega)).mono ?_
  rintro e w2 ⟨A3, c3, rfl, ho2, hb2⟩
  rw [HB.out.1] at ho2 ⊢
  rw [HB.out.2]
  have S2 := Lib.hid ((S1.out.call hb2).add (fR A3 c3 B) (own_rd ho2 BB.out))
  clear S1 ho2 hb2
  have cp3 := S2.out.2.1.le
  have cq3 := S2.out.2.1.cap

  go_wp2_with fail
  refine (KM _ _ _ L _ S2.out.2.2.2.2.2.1 S2.out.2.2.2.2.1 rfl (by omega)).mono ?_
  rintro e w3 ⟨rfl, hb3⟩
  rw [HV.out]
  have S3 := Lib.hid (S2.out.call hb3)
  clear S2 hb3
  go_wp2_with (at_builtin; refine wpList_append_rd _ rfl (.tmp 63) (.tmp 64) 26 rfl w3.heap.size 5 i0 Tryd.underlying26 hi hz0 hz1 hz2 _ 0 [] rfl (World.ownsRow_lit w3 #[] 0 (Nat.le_refl _) (Nat.zero_le _) rfl) A1 la.length c1 la rfl (Rd.alloc S3.out.2.2.2.1 _) rfl (by omega) (by simp) ?_)
  intro A4 c4 w4 ho4 _ hb4 _
  have O4 : Hid (w4.ownsRow w3.heap.size 5 1 (.slice A4 la.length c4) la.length (cel la)) := by simpa [Hid] using ho4
  have B4 := Lib.hid (new1.trans hb4)
  clear ho4 hb4
  go_wp2_with (at_builtin; refine wpList_append_rd _ rfl (.tmp 65) (.tmp 66) 26 rfl w3.heap.size 5 i0 Tryd.underlying26 hi hz0 hz1 hz2 _ la.length la rfl O4.out A3 B.length c3 B rfl (Rd.keep S3.out.2.1 B4.out) rfl (by omega) B4.out.size ?_)
  intro A5 c5 w5 ho5 _ hb5 _
  have O5 := Lib.hid ho5
  have B5 := Lib.hid (B4.out.trans hb5)
  clear ho5 hb5 O4 B4
  go_wp2_with (at_builtin; refine wpList_append_rd _ rfl (.tmp 67) (.tmp 68) 26 rfl w3.heap.size 5 i0 Tryd.underlying26 hi hz0 hz1 hz2 _ (la.length + B.length) (la ++ B) rfl O5.out A2 lb.length c2 lb rfl (Rd.keep S3.out.2.2.1 B5.out) rfl (by omega) B5.out.size ?_)
  intro A6 c6 w6 ho6 _ hb6 _
  have B6 := Lib.hid (B5.out.trans hb6)
  have S6 := Lib.hid (S3.out.call B6.out)
  have R6 := Lib.hid (own_rd ho6 (byt_append S3.out.2.2.2.1.byt (byt_append BB.out S3.out.2.2.1.byt)))
  clear ho6 hb6 O5 B5 B6 S3
  go_wp2_with fail
  refine (KR _ _ _ (la ++ (B ++ lb)) la.length _ S6.out.2.2.2.2.2.1 R6.out (by simp; omega)).mono ?_
  rintro e w7 ⟨A7, c7, rfl, h7, hb7⟩
  rw [HX.out] at h7 ⊢
  simp only at h7
  have S7 := Lib.hid ((S6.out.call hb7).add (fW A7 c7 L) h7)
  clear S6 h7 hb7 R6
  have e7 : ((la.length + B.length : Nat) : Int) = (la.length : Int) + (B.length : Int) := by omega
  simp only
  rw [e7]
  clear e7
  go_wp2_with fail
  refine (r3same_any _ _ _ _ _ _ L L _ S7.out.2.2.2.2.2.1 S7.out.2.1 rfl rfl).mono ?_
  rintro e w8 ⟨rfl, hb8⟩
  rw [decide_eq_true rfl]
  have S7b := Lib.hid (S7.out.call hb8)
  clear S7 hb8
  go_wp2_with fail
  have e1 : (B.take (B.length - 1)).length = B.length - 1 := by simp
  have PC := Lib.hid (KR A3 c3 (B.length - 1) (B.take (B.length - 1)) 0 _ S7b.out.2.2.2.2.2.2.1 (S7b.out.2.2.1.pre _) e1)
  rw [HCU.out] at PC
  refine PC.out.mono ?_
  rintro e w8b ⟨A8, c8, rfl, h8, hb8⟩
  have S8 := Lib.hid (show Sx w w8b [fR A2 c2 lb, F] from ⟨(S7b.out.call hb8).1, (S7b.out.call hb8).2.2.2.1, (S7b.out.call hb8).2.2.2.2.2.2.1, trivial⟩)
  clear S7b hb8 PC e1 h8
  go_wp2_with fail
  refine (KR _ _ _ lb (q : Int) _ S8.out.2.2.1 S8.out.2.1 rfl).mono ?_
  rintro e w9 ⟨A9, c9, rfl, h9, hb9⟩
  rw [HR.out] at h9 ⊢
  simp only at h9
  have hl9 := h9.len
  have S9 := Lib.hid ((S8.out.call hb9).add (fW A9 c9 M) h9)
  clear S8 h9 hb9
  have e9 : ((q + nC : Nat) : Int) = (q : Int) + (nC : Int) := by omega
  simp only
  rw [e9]
  clear e9
  go_wp2_with fail
  refine (KB _ _ _ M _ S9.out.2.2.2.1 S9.out.2.1 rfl (by omega)).mono ?_
  rintro e w10 ⟨A10, c10, rfl, ho10, hb10⟩
  rw [HM.out.1] at ho10 ⊢
  rw [HM.out.2.1, HM.out.2.2]
  have S10 := Lib.hid ((S9.out.call hb10).add (fR A10 c10 C) (own_rd ho10 BC.out))
  clear S9 ho10 hb10
  have cq10 := S10.out.2.1.le
  rw [HM.out.2.2] at cq10
  have hq := HQ.out
  go_upto_region 19 with (fail)
  have hsl := HSL.out
  have j0 : (0 : Int) ≤ (q : Int) := by omega
  have j1 : (q : Int) ≤ (lb.length : Int) := by omega
  have j2 : (q : Int) + (nC : Int) ≤ (lb.length : Int) := by omega
  have j3 : IntKind.i64.wrap ((q : Int) + (nC : Int)) = (q : Int) + (nC : Int) := IntWalk.i64_in _ (by omega)
  refine wp_region_held_drew (S := fun w' => Hid (Sx w w' [fR A10 c10 C, fW A9 c9 M, fR A2 c2 lb, F])) (by kernel_rfl) (Hsx.drew S10) (fun hHeld => ?_)
  refine wpAnyH_take (i := 0) (v := ?_) rfl (by kernel_rfl) (by kernel_rfl) (by kernel_rfl) (fun _ _ _ h => h) (Or.inl ⟨by rfl, ?_⟩) (by assumption) ?_
  rotate_left 1
  · intro w _; go_simp; try with_reducible rfl
  try simp only [Act.put, List.getElem_toArray, List.getElem_cons_zero, List.getElem_cons_succ, List.setIfInBounds_toArray, List.set_cons_zero, List.set_cons_succ]
  refine wpAnyH_take (i := 1) (v := ?_) rfl (by kernel_rfl) (by kernel_rfl) (by kernel_rfl) (fun _ _ _ h => h) (Or.inl ⟨by rfl, ?_⟩) (by assumption) ?_
  rotate_left 1
  · intro w _; go_simp; try with_reducible rfl
  try simp only [Act.put, List.getElem_toArray, List.getElem_cons_zero, List.getElem_cons_succ, List.setIfInBounds_toArray, List.set_cons_zero, List.set_cons_succ]
  refine wpAnyH_take (i := 2) (v := ?_) rfl (by kernel_rfl) (by kernel_rfl) (by kernel_rfl) (fun _ _ _ h => h) (Or.inl ⟨by rfl, ?_⟩) (by assumption) ?_
  rotate_left 1
  · intro w _; go_simp; try with_reducible rfl
  try simp only [Act.put, List.getElem_toArray, List.getElem_cons_zero, List.getElem_cons_succ, List.setIfInBounds_toArray, List.set_cons_zero, List.set_cons_succ]
  refine wpAnyH_take (i := 3) (v := ?_) rfl (by kernel_rfl) (by kernel_rfl) (by kernel_rfl) (fun _ _ _ h => h) (Or.inl ⟨by rfl, ?_⟩) (by assumption) ?_
  rotate_left 1
  · intro w _; go_simp; try with_reducible rfl
  try simp only [Act.put, List.getElem_toArray, List.getElem_cons_zero, List.getElem_cons_succ, List.setIfInBounds_toArray, List.set_cons_zero, List.set_cons_succ]
  refine wpAnyH_ready (rs := [4]) (by kernel_rfl) (by simp) ?_
  refine AllReadyH.cons rfl (fun K hK => ?_) AllReadyH.nil
  go_simp
  refine (KM _ _ _ M _ hHeld.out.2.2.2.2.1 hHeld.out.2.2.1 rfl (by omega)).mono ?_
  rintro e w11 ⟨rfl, hb⟩
  rw [HVM.out]
  go_wp2_with fail
  refine hK.out _ _ (Hsx.call hb hHeld) (fun hHeld => ?_)
  clear hK K
  try simp only [Act.put, List.getElem_toArray, List.getElem_cons_zero, List.getElem_cons_succ, List.setIfInBounds_toArray, List.set_cons_zero, List.set_cons_succ]
  refine wpAnyH_take (i := 5) (v := ?_) rfl (by kernel_rfl) (by kernel_rfl) (by kernel_rfl) (fun _ _ _ h => h) (Or.inl ⟨by rfl, ?_⟩) (by assumption) ?_
  rotate_left 1
  · intro w _; go_simp; try with_reducible rfl
  try simp only [Act.put, List.getElem_toArray, List.getElem_cons_zero, List.getElem_cons_succ, List.setIfInBounds_toArray, List.set_cons_zero, List.set_cons_succ]
  refine wpAnyH_take (i := 6) (v := ?_) rfl (by kernel_rfl) (by kernel_rfl) (by kernel_rfl) (fun _ _ _ h => h) (Or.inl ⟨by rfl, ?_⟩) (by assumption) ?_
  rotate_left 1
  · intro w _; go_simp; try with_reducible rfl
  try simp only [Act.put, List.getElem_toArray, List.getElem_cons_zero, List.getElem_cons_succ, List.setIfInBounds_toArray, List.set_cons_zero, List.set_cons_succ]
  refine wpAnyH_take (i := 7) (v := ?_) rfl (by kernel_rfl) (by kernel_rfl) (by kernel_rfl) (fun _ _ _ h => h) (Or.inl ⟨by rfl, ?_⟩) (by assumption) ?_
  rotate_left 1
  · intro w _; go_simp; try with_reducible rfl
  try simp only [Act.put, List.getElem_toArray, List.getElem_cons_zero, List.getElem_cons_succ, List.setIfInBounds_toArray, List.set_cons_zero, List.set_cons_succ]
  refine wpAnyH_take (i := 8) (v := ?_) rfl (by kernel_rfl) (by kernel_rfl) (by kernel_rfl) (fun _ _ _ h => h) (Or.inl ⟨by rfl, ?_⟩) (by assumption) ?_
  rotate_left 1
  · intro w _; go_simp; try with_reducible rfl
  try simp only [Act.put, List.getElem_toArray, List.getElem_cons_zero, List.getElem_cons_succ, List.setIfInBounds_toArray, List.set_cons_zero, List.set_cons_succ]
  refine wpAnyH_take (i := 9) (v := ?_) rfl (by kernel_rfl) (by kernel_rfl) (by kernel_rfl) (fun _ _ _ h => h) (Or.inl ⟨by rfl, ?_⟩) (by assumption) ?_
  rotate_left 1
  · intro w _; go_simp; try with_reducible rfl
  try simp only [Act.put, List.getElem_toArray, List.getElem_cons_zero, List.getElem_cons_succ, List.setIfInBounds_toArray, List.set_cons_zero, List.set_cons_succ]
  refine wpAnyH_take (i := 10) (v := ?_) rfl (by kernel_rfl) (by kernel_rfl) (by kernel_rfl) (fun _ _ _ h => h) (Or.inl ⟨by rfl, ?_⟩) (by assumption) ?_
  rotate_left 1
  · intro w _; go_simp; try with_reducible rfl
  try simp only [Act.put, List.getElem_toArray, List.getElem_cons_zero, List.getElem_cons_succ, List.setIfInBounds_toArray, List.set_cons_zero, List.set_cons_succ]
  refine wpAnyH_take (i := 11) (v := ?_) rfl (by kernel_rfl) (by kernel_rfl) (by kernel_rfl) (fun _ _ _ h => h) (Or.inl ⟨by rfl, ?_⟩) (by assumption) ?_
  rotate_left 1
  · intro w _; go_simp; try with_reducible rfl
  try simp only [Act.put, List.getElem_toArray, List.getElem_cons_zero, List.getElem_cons_succ, List.setIfInBounds_toArray, List.set_cons_zero, List.set_cons_succ]
  refine wpAnyH_take (i := 12) (v := ?_) rfl (by kernel_rfl) (by kernel_rfl) (by kernel_rfl) (fun _ _ _ h => h) (Or.inl ⟨by rfl, ?_⟩) (by assumption) ?_
  rotate_left 1
  · intro w _; go_simp; try with_reducible rfl
  try simp only [Act.put, List.getElem_toArray, List.getElem_cons_zero, List.getElem_cons_succ, List.setIfInBounds_toArray, List.set_cons_zero, List.set_cons_succ]
  refine wpAnyH_take (i := 13) (v := ?_) rfl (by kernel_rfl) (by kernel_rfl) (by kernel_rfl) (fun _ _ _ h => h) (Or.inl ⟨by rfl, ?_⟩) (by assumption) ?_
  rotate_left 1
  · intro w _; go_simp; try with_reducible rfl
  try simp only [Act.put, List.getElem_toArray, List.getElem_cons_zero, List.getElem_cons_succ, List.setIfInBounds_toArray, List.set_cons_zero, List.set_cons_succ]
  refine wpAnyH_take (i := 14) (v := ?_) rfl (by kernel_rfl) (by kernel_rfl) (by kernel_rfl) (fun _ _ _ h => h) (Or.inl ⟨by rfl, ?_⟩) (by assumption) ?_
  rotate_left 1
  · intro w _; go_simp; try with_reducible rfl
  try simp only [Act.put, List.getElem_toArray, List.getElem_cons_zero, List.getElem_cons_succ, List.setIfInBounds_toArray, List.set_cons_zero, List.set_cons_succ]
  refine wpAnyH_take (i := 15) (v := ?_) rfl (by kernel_rfl) (by kernel_rfl) (by kernel_rfl) (fun _ _ _ h => h) (Or.inl ⟨by rfl, ?_⟩) (by assumption) ?_
  rotate_left 1
  · intro w _; go_simp; try with_reducible rfl
  try simp only [Act.put, List.getElem_toArray, List.getElem_cons_zero, List.getElem_cons_succ, List.setIfInBounds_toArray, List.set_cons_zero, List.set_cons_succ]
  refine wpAnyH_take (i := 16) (v := ?_) rfl (by kernel_rfl) (by kernel_rfl) (by kernel_rfl) (fun _ _ _ h => h) (Or.inl ⟨by rfl, ?_⟩) (by assumption) ?_
  rotate_left 1
  · intro w _; go_simp; try with_reducible rfl
  try simp only [Act.put, List.getElem_toArray, List.getElem_cons_zero, List.getElem_cons_succ, List.setIfInBounds_toArray, List.set_cons_zero, List.set_cons_succ]
  refine wpAnyH_take (i := 17) (v := ?_) rfl (by kernel_rfl) (by kernel_rfl) (by kernel_rfl) (fun _ _ _ h => h) (Or.inl ⟨by rfl, ?_⟩) (by assumption) ?_
  rotate_left 1
  · intro w _; go_simp; try with_reducible rfl
  try simp only [Act.put, List.getElem_toArray, List.getElem_cons_zero, List.getElem_cons_succ, List.setIfInBounds_toArray, List.set_cons_zero, List.set_cons_succ]
  refine wpAnyH_take (i := 18) (v := ?_) rfl (by kernel_rfl) (by kernel_rfl) (by kernel_rfl) (fun _ _ _ h => h) (Or.inl ⟨by rfl, ?_⟩) (by assumption) ?_
  rotate_left 1
  · intro w _; go_simp; try with_reducible rfl
  try simp only [Act.put, List.getElem_toArray, List.getElem_cons_zero, List.getElem_cons_succ, List.setIfInBounds_toArray, List.set_cons_zero, List.set_cons_succ]
  refine wpAnyH_take (i := 19) (v := ?_) rfl (by kernel_rfl) (by kernel_rfl) (by kernel_rfl) (fun _ _ _ h => h) (Or.inl ⟨by rfl, ?_⟩) (by assumption) ?_
  rotate_left 1
  · intro w _; go_simp; try with_reducible rfl
  try simp only [Act.put, List.getElem_toArray, List.getElem_cons_zero, List.getElem_cons_succ, List.setIfInBounds_toArray, List.set_cons_zero, List.set_cons_succ]
  refine wpAnyH_take (i := 20) (v := ?_) rfl (by kernel_rfl) (by kernel_rfl) (by kernel_rfl) (fun _ _ _ h => h) (Or.inl ⟨by rfl, ?_⟩) (by assumption) ?_
  rotate_left 1
  · intro w _; go_simp; try with_reducible rfl
  try simp only [Act.put, List.getElem_toArray, List.getElem_cons_zero, List.getElem_cons_succ, List.setIfInBounds_toArray, List.set_cons_zero, List.set_cons_succ]
  refine wpAnyH_take (i := 21) (v := ?_) rfl (by kernel_rfl) (by kernel_rfl) (by kernel_rfl) (fun _ _ _ h => h) (Or.inl ⟨by rfl, ?_⟩) (by assumption) ?_
  rotate_left 1
  · intro w _; go_simp; try with_reducible rfl
  try simp only [Act.put, List.getElem_toArray, List.getElem_cons_zero, List.getElem_cons_succ, List.setIfInBounds_toArray, List.set_cons_zero, List.set_cons_succ]
  refine wpAnyH_take (i := 22) (v := ?_) rfl (by kernel_rfl) (by kernel_rfl) (by kernel_rfl) (fun _ _ _ h => h) (Or.inl ⟨by rfl, ?_⟩) (by assumption) ?_
  rotate_left 1
  · intro w _; go_simp; try with_reducible rfl
  try simp only [Act.put, List.getElem_toArray, List.getElem_cons_zero, List.getElem_cons_succ, List.setIfInBounds_toArray, List.set_cons_zero, List.set_cons_succ]
  refine wpAnyH_take (i := 23) (v := ?_) rfl (by kernel_rfl) (by kernel_rfl) (by kernel_rfl) (fun _ _ _ h => h) (Or.inl ⟨by rfl, ?_⟩) (by assumption) ?_
  rotate_left 1
  · intro w _; go_simp; try with_reducible rfl
  try simp only [Act.put, List.getElem_toArray, List.getElem_cons_zero, List.getElem_cons_succ, List.setIfInBounds_toArray, List.set_cons_zero, List.set_cons_succ]
  refine wpAnyH_take (i := 24) (v := ?_) rfl (by kernel_rfl) (by kernel_rfl) (by kernel_rfl) (fun _ _ _ h => h) (Or.inl ⟨by rfl, ?_⟩) (by assumption) ?_
  rotate_left 1
  · intro w _; go_simp; try with_reducible rfl
  try simp only [Act.put, List.getElem_toArray, List.getElem_cons_zero, List.getElem_cons_succ, List.setIfInBounds_toArray, List.set_cons_zero, List.set_cons_succ]
  refine wpAnyH_take (i := 25) (v := ?_) rfl (by kernel_rfl) (by kernel_rfl) (by kernel_rfl) (fun _ _ _ h => h) (Or.inl ⟨by rfl, ?_⟩) (by assumption) ?_
  rotate_left 1
  · intro w _; go_simp; try with_reducible rfl
  try simp only [Act.put, List.getElem_toArray, List.getElem_cons_zero, List.getElem_cons_succ, List.setIfInBounds_toArray, List.set_cons_zero, List.set_cons_succ]
  refine wpAnyH_take (i := 26) (v := ?_) rfl (by kernel_rfl) (by kernel_rfl) (by kernel_rfl) (fun _ _ _ h => h) (Or.inl ⟨by rfl, ?_⟩) (by assumption) ?_
  rotate_left 1
  · intro w _; go_simp; try with_reducible rfl
  try simp only [Act.put, List.getElem_toArray, List.getElem_cons_zero, List.getElem_cons_succ, List.setIfInBounds_toArray, List.set_cons_zero, List.set_cons_succ]
  refine wpAnyH_take (i := 27) (v := ?_) rfl (by kernel_rfl) (by kernel_rfl) (by kernel_rfl) (fun _ _ _ h => h) (Or.inl ⟨by rfl, ?_⟩) (by assumption) ?_
  rotate_left 1
  · intro w _; go_simp; try with_reducible rfl
  try simp only [Act.put, List.getElem_toArray, List.getElem_cons_zero, List.getElem_cons_succ, List.setIfInBounds_toArray, List.set_cons_zero, List.set_cons_succ]
  refine wpAnyH_take (i := 28) (v := ?_) rfl (by kernel_rfl) (by kernel_rfl) (by kernel_rfl) (fun _ _ _ h => h) (Or.inl ⟨by rfl, ?_⟩) (by assumption) ?_
  rotate_left 1
  · intro w _; go_simp; try with_reducible rfl
  try simp only [Act.put, List.getElem_toArray, List.getElem_cons_zero, List.getElem_cons_succ, List.setIfInBounds_toArray, List.set_cons_zero, List.set_cons_succ]
  refine wpAnyH_take (i := 29) (v := ?_) rfl (by kernel_rfl) (by kernel_rfl) (by kernel_rfl) (fun _ _ _ h => h) (Or.inl ⟨by rfl, ?_⟩) (by assumption) ?_
  rotate_left 1
  · intro w _; go_simp; try with_reducible rfl
  try simp only [Act.put, List.getElem_toArray, List.getElem_cons_zero, List.getElem_cons_succ, List.setIfInBounds_toArray, List.set_cons_zero, List.set_cons_succ]
  refine wpAnyH_take (i := 30) (v := ?_) rfl (by kernel_rfl) (by kernel_rfl) (by kernel_rfl) (fun _ _ _ h => h) (Or.inl ⟨by rfl, ?_⟩) (by assumption) ?_
  rotate_left 1
  · intro w _; go_simp; try with_reducible rfl
  try simp only [Act.put, List.getElem_toArray, List.getElem_cons_zero, List.getElem_cons_succ, List.setIfInBounds_toArray, List.set_cons_zero, List.set_cons_succ]
  refine wpAnyH_take (i := 31) (v := ?_) rfl (by kernel_rfl) (by kernel_rfl) (by kernel_rfl) (fun _ _ _ h => h) (Or.inl ⟨by rfl, ?_⟩) (by assumption) ?_
  rotate_left 1
  · intro w _; go_simp; try with_reducible rfl
  try simp only [Act.put, List.getElem_toArray, List.getElem_cons_zero, List.getElem_cons_succ, List.setIfInBounds_toArray, List.set_cons_zero, List.set_cons_succ]
  refine wpAnyH_take (i := 32) (v := ?_) rfl (by kernel_rfl) (by kernel_rfl) (by kernel_rfl) (fun _ _ _ h => h) (Or.inl ⟨by rfl, ?_⟩) (by assumption) ?_
  rotate_left 1
  · intro w hSw; (try dsimp only at hSw); have h5 := hSw.out.2.1; have h6 := rd_string (P := Tryd.prog) h5 26 9 5 Tryd.underlying26 Tryd.underlying5 Tryd.underlying9; rw [HM.out.2.2, HS.out] at h6; clear h5 hSw; go_simp; try with_reducible rfl
  try simp only [Act.put, List.getElem_toArray, List.getElem_cons_zero, List.getElem_cons_succ, List.setIfInBounds_toArray, List.set_cons_zero, List.set_cons_succ]
  refine wpAnyH_take (i := 33) (v := ?_) rfl (by kernel_rfl) (by kernel_rfl) (by kernel_rfl) (fun _ _ _ h => h) (Or.inl ⟨by rfl, ?_⟩) (by assumption) ?_
  rotate_left 1
  · intro w _; go_simp; try with_reducible rfl
  try simp only [Act.put, List.getElem_toArray, List.getElem_cons_zero, List.getElem_cons_succ, List.setIfInBounds_toArray, List.set_cons_zero, List.set_cons_succ]
  refine wpAnyH_take (i := 34) (v := ?_) rfl (by kernel_rfl) (by kernel_rfl) (by kernel_rfl) (fun _ _ _ h => h) (Or.inl ⟨by rfl, ?_⟩) (by assumption) ?_
  rotate_left 1
  · intro w _; go_simp; try with_reducible rfl
  try simp only [Act.put, List.getElem_toArray, List.getElem_cons_zero, List.getElem_cons_succ, List.setIfInBounds_toArray, List.set_cons_zero, List.set_cons_succ]
  refine wpAnyH_take (i := 35) (v := ?_) rfl (by kernel_rfl) (by kernel_rfl) (by kernel_rfl) (fun _ _ _ h => h) (Or.inl ⟨by rfl, ?_⟩) (by assumption) ?_
  rotate_left 1
  · intro w _; go_simp; try with_reducible rfl
  try simp only [Act.put, List.getElem_toArray, List.getElem_cons_zero, List.getElem_cons_succ, List.setIfInBounds_toArray, List.set_cons_zero, List.set_cons_succ]
  refine wpAnyH_take (i := 36) (v := ?_) rfl (by kernel_rfl) (by kernel_rfl) (by kernel_rfl) (fun _ _ _ h => h) (Or.inl ⟨by rfl, ?_⟩) (by assumption) ?_
  rotate_left 1
  · intro w _; go_simp; try with_reducible rfl
  try simp only [Act.put, List.getElem_toArray, List.getElem_cons_zero, List.getElem_cons_succ, List.setIfInBounds_toArray, List.set_cons_zero, List.set_cons_succ]
  refine wpAnyH_take (i := 37) (v := ?_) rfl (by kernel_rfl) (by kernel_rfl) (by kernel_rfl) (fun _ _ _ h => h) (Or.inl ⟨by rfl, ?_⟩) (by assumption) ?_
  rotate_left 1
  · intro w hSw; (try dsimp only at hSw); have h5 := HRS.out _ hSw.out.2.2.2.1; have h6 := rd_string (P := Tryd.prog) h5 26 9 5 Tryd.underlying26 Tryd.underlying5 Tryd.underlying9; rw [HM.out.2.2, HS.out] at h6; clear h5 hSw; go_simp; try with_reducible rfl
  try simp only [Act.put, List.getElem_toArray, List.getElem_cons_zero, List.getElem_cons_succ, List.setIfInBounds_toArray, List.set_cons_zero, List.set_cons_succ]
  refine wpAnyH_take (i := 38) (v := ?_) rfl (by kernel_rfl) (by kernel_rfl) (by kernel_rfl) (fun _ _ _ h => h) (Or.inl ⟨by rfl, ?_⟩) (by assumption) ?_
  rotate_left 1
  · intro w _; go_simp; try with_reducible rfl
  try simp only [Act.put, List.getElem_toArray, List.getElem_cons_zero, List.getElem_cons_succ, List.setIfInBounds_toArray, List.set_cons_zero, List.set_cons_succ]
  refine wpAnyH_take (i := 39) (v := ?_) rfl (by kernel_rfl) (by kernel_rfl) (by kernel_rfl) (fun _ _ _ h => h) (Or.inl ⟨by rfl, ?_⟩) (by assumption) ?_
  rotate_left 1
  · intro w _; go_simp; try with_reducible rfl
  try simp only [Act.put, List.getElem_toArray, List.getElem_cons_zero, List.getElem_cons_succ, List.setIfInBounds_toArray, List.set_cons_zero, List.set_cons_succ]
  refine wpAnyH_take (i := 40) (v := ?_) rfl (by kernel_rfl) (by kernel_rfl) (by kernel_rfl) (fun _ _ _ h => h) (Or.inl ⟨by rfl, ?_⟩) (by assumption) ?_
  rotate_left 1
  · intro w _; go_simp; try with_reducible rfl
  try simp only [Act.put, List.getElem_toArray, List.getElem_cons_zero, List.getElem_cons_succ, List.setIfInBounds_toArray, List.set_cons_zero, List.set_cons_succ]
  refine wpAnyH_done (by kernel_rfl) ?_ _
  go_wp2_with fail
  go_ret
  exact ⟨rfl, hHeld.out.1⟩
set_option maxRecDepth 100000 in
set_option maxHeartbeats 4000000 in
theorem pback_gn (F : Fct) (KM : KPMay F) (KB : KPBytes F) (KR : KPRead F) (KA : KPAdd F) (A A1 A2 : Option Addr) (c c1 c2 : Nat) (L : List Vlu) (la lb B : List Int) (p e0 : Int) (w : World) (hw : F.p w) (hr : Rv w A c L) (ha : Rd w A1 c1 la) (hb : Rd w A2 c2 lb) (hl : L.length ≤ 1000 ∧ la.length ≤ 300 ∧ lb.length ≤ 1500)
    (hB : poL L = B ∧ poE L = 0) (hv : poM L = true) (hbB : Byt B) (hBl : B.length ≤ 1000) (hX : rdP (la ++ (B ++ lb)) la.length = (L, ((la.length + B.length : Nat) : Int), 0)) (hCU : rdP (B.take (B.length - 1)) 0 = ([], 0, 10)) (hBp : 1 ≤ B.length) (hR : rdP lb p = ([], 0, e0)) (he : (e0 != 0) = true) :
    Calls Tryd.prog 5 #[.slice A L.length c, .slice A1 la.length c1, .slice A2 lb.length c2, .int .i64 p] w fun e w' => e = .returned (.bool true) ∧ Below w.heap.size w w' := by
  obtain ⟨i0, hi, hz0, hz1, hz2⟩ := info_p Tryd.info5
  have HB := Lib.hid hB
  have HV := Lib.hid hv
  have BB := Lib.hid hbB
  have HR := Lib.hid hR
  have cap0 := hr.len
  have cap1 := ha.cap
  have cap2 := hb.cap
  have cpa := ha.le
  have cpb := hb.le
  have S0 := Lib.hid (((((Sx.start w).add F hw).add (fW A c L) hr).add (fR A1 c1 la) ha).add (fR A2 c2 lb) hb)
  have HX := Lib.hid hX
  have HCU := Lib.hid hCU
  have HE := Lib.hid he
  clear hB hv hbB hR hw hr ha hb hX hCU he
  go_enter Tryd.func5, Tryd.ntmps5
  go_wp2_with fail
  refine (pawake_any F KB KR KA _ S0.out.2.2.2.2.1).mono ?_
  rintro e w1 ⟨rfl, hb1⟩
  have S1 := Lib.hid (S0.out.call hb1)
  clear S0 hb1
  go_wp2_with fail
  refine (KB _ _ _ L _ S1.out.2.2.2.2.1 S1.out.2.2.2.1 rfl (by omega)).mono ?_
  rintro e w2 ⟨A3, c3, rfl, ho2, hb2⟩
  rw [HB.out.1] at ho2 ⊢
  rw [HB.out.2]
  have S2 := Lib.hid ((S1.out.call hb2).add (fR A3 c3 B) (own_rd ho2 BB.out))
  clear S1 ho2 hb2
  have cp3 := S2.out.2.1.le
  have cq3 := S2.out.2.1.cap

  go_wp2_with fail
  refine (KM _ _ _ L _ S2.out.2.2.2.2.2.1 S2.out.2.2.2.2.1 rfl (by omega)).mono ?_
  rintro e w3 ⟨rfl, hb3⟩
  rw [HV.out]
  have S3 := Lib.hid (S2.out.call hb3)
  clear S2 hb3
  go_wp2_with (at_builtin; refine wpList_append_rd _ rfl (.tmp 63) (.tmp 64) 26 rfl w3.heap.size 5 i0 Tryd.underlying26 hi hz0 hz1 hz2 _ 0 [] rfl (World.ownsRow_lit w3 #[] 0 (Nat.le_refl _) (Nat.zero_le _) rfl) A1 la.length c1 la rfl (Rd.alloc S3.out.2.2.2.1 _) rfl (by omega) (by simp) ?_)
  intro A4 c4 w4 ho4 _ hb4 _
  have O4 : Hid (w4.ownsRow w3.heap.size 5 1 (.slice A4 la.length c4) la.length (cel la)) := by simpa [Hid] using ho4
  have B4 := Lib.hid (new1.trans hb4)
  clear ho4 hb4
  go_wp2_with (at_builtin; refine wpList_append_rd _ rfl (.tmp 65) (.tmp 66) 26 rfl w3.heap.size 5 i0 Tryd.underlying26 hi hz0 hz1 hz2 _ la.length la rfl O4.out A3 B.length c3 B rfl (Rd.keep S3.out.2.1 B4.out) rfl (by omega) B4.out.size ?_)
  intro A5 c5 w5 ho5 _ hb5 _
  have O5 := Lib.hid ho5
  have B5 := Lib.hid (B4.out.trans hb5)
  clear ho5 hb5 O4 B4
  go_wp2_with (at_builtin; refine wpList_append_rd _ rfl (.tmp 67) (.tmp 68) 26 rfl w3.heap.size 5 i0 Tryd.underlying26 hi hz0 hz1 hz2 _ (la.length + B.length) (la ++ B) rfl O5.out A2 lb.length c2 lb rfl (Rd.keep S3.out.2.2.1 B5.out) rfl (by omega) B5.out.size ?_)
  intro A6 c6 w6 ho6 _ hb6 _
  have B6 := Lib.hid (B5.out.trans hb6)
  have S6 := Lib.hid (S3.out.call B6.out)
  have R6 := Lib.hid (own_rd ho6 (byt_append S3.out.2.2.2.1.byt (byt_append BB.out S3.out.2.2.1.byt)))
  clear ho6 hb6 O5 B5 B6 S3
  go_wp2_with fail
  refine (KR _ _ _ (la ++ (B ++ lb)) la.length _ S6.out.2.2.2.2.2.1 R6.out (by simp; omega)).mono ?_
  rintro e w7 ⟨A7, c7, rfl, h7, hb7⟩
  rw [HX.out] at h7 ⊢
  simp only at h7
  have S7 := Lib.hid ((S6.out.call hb7).add (fW A7 c7 L) h7)
  clear S6 h7 hb7 R6
  have e7 : ((la.length + B.length : Nat) : Int) = (la.length : Int) + (B.length : Int) := by omega
  simp only
  rw [e7]
  clear e7
  go_wp2_with fail
  refine (r3same_any _ _ _ _ _ _ L L _ S7.out.2.2.2.2.2.1 S7.out.2.1 rfl rfl).mono ?_
  rintro e w8 ⟨rfl, hb8⟩
  rw [decide_eq_true rfl]
  have S7b := Lib.hid (S7.out.call hb8)
  clear S7 hb8
  go_wp2_with fail
  have e1 : (B.take (B.length - 1)).length = B.length - 1 := by simp
  have PC := Lib.hid (KR A3 c3 (B.length - 1) (B.take (B.length - 1)) 0 _ S7b.out.2.2.2.2.2.2.1 (S7b.out.2.2.1.pre _) e1)
  rw [HCU.out] at PC
  refine PC.out.mono ?_
  rintro e w8b ⟨A8, c8, rfl, h8, hb8⟩
  have S8 := Lib.hid (show Sx w w8b [fR A2 c2 lb, F] from ⟨(S7b.out.call hb8).1, (S7b.out.call hb8).2.2.2.1, (S7b.out.call hb8).2.2.2.2.2.2.1, trivial⟩)
  clear S7b hb8 PC e1 h8
  go_wp2_with fail
  refine (KR _ _ _ lb p _ S8.out.2.2.1 S8.out.2.1 rfl).mono ?_
  rintro e w9 ⟨A9, c9, rfl, h9, hb9⟩
  rw [HR.out] at h9 ⊢
  simp only at h9
  have S9 := Lib.hid (S8.out.call hb9)
  clear S8 h9 hb9
  simp only
  rw [show ([] : List Vlu).length = 0 from rfl]
  have he := HE.out
  go_wp2_with fail
  go_ret
  exact ⟨rfl, S9.out.1⟩
set_option maxRecDepth 100000 in
set_option maxHeartbeats 4000000 in
theorem pback_fk (F : Fct) (KM : KPMay F) (KB : KPBytes F) (KR : KPRead F) (KA : KPAdd F) (A A1 A2 : Option Addr) (c c1 c2 : Nat) (L : List Vlu) (la lb B : List Int) (M : List Vlu) (C : List Int) (q nC : Nat) (w : World) (hw : F.p w) (hr : Rv w A c L) (ha : Rd w A1 c1 la) (hb : Rd w A2 c2 lb) (hl : L.length ≤ 1000 ∧ la.length ≤ 300 ∧ lb.length ≤ 1500)
    (hB : poL L = B ∧ poE L = 60) (hv : poM L = false) (hbB : Byt B) (hBl : B.length ≤ 1000) (hB0 : B = []) (hR : rdP lb (q : Int) = (M, ((q + nC : Nat) : Int), 0)) (hM : poL M = C ∧ poE M = 0 ∧ C.length = nC) (hvM : poM M = true) (hMl : M.length ≤ 1000) (hbC : Byt C) (hq : q + nC ≤ lb.length) (hC : (lb.drop q).take nC = C) :
    Calls Tryd.prog 5 #[.slice A L.length c, .slice A1 la.length c1, .slice A2 lb.length c2, .int .i64 (q : Int)] w fun e w' => e = .returned (.bool true) ∧ Below w.heap.size w w' := by
  obtain ⟨i0, hi, hz0, hz1, hz2⟩ := info_p Tryd.info5
  have HB := Lib.hid hB
  have HV := Lib.hid hv
  have BB := Lib.hid hbB
  have HR := Lib.hid hR
  have cap0 := hr.len
  have cap1 := ha.cap
  have cap2 := hb.cap
  have cpa := ha.le
  have cpb := hb.le
  have S0 := Lib.hid (((((Sx.start w).add F hw).add (fW A c L) hr).add (fR A1 c1 la) ha).add (fR A2 c2 lb) hb)
  subst hB0
  have HM := Lib.hid hM
  have HVM := Lib.hid hvM
  have BC := Lib.hid hbC
  obtain ⟨A', c', hsl, hrs⟩ := slice_run A2 c2 lb q (q + nC) (by omega) hq cpb
  have hsub : q + nC - q = nC := by omega
  rw [hsub] at hsl hrs
  rw [hC] at hrs
  have e3 : ((q + nC : Nat) : Int) = (q : Int) + (nC : Int) := by omega
  rw [e3] at hsl
  have HRS := Lib.hid hrs
  obtain ⟨s, hs⟩ : ∃ s, strOfNums C = s := ⟨_, rfl⟩
  have HS := Lib.hid hs
  have HSL := Lib.hid hsl
  have HQ := Lib.hid hq
  clear hB hv hbB hR hw hr ha hb hM hvM hbC hrs hsub hC e3 hs hq hsl
  go_enter Tryd.func5, Tryd.ntmps5
  go_wp2_with fail
  refine (pawake_any F KB KR KA _ S0.out.2.2.2.2.1).mono ?_
  rintro e w1 ⟨rfl, hb1⟩
  have S1 := Lib.hid (S0.out.call hb1)
  clear S0 hb1
  go_wp2_with fail
  refine (KB _ _ _ L _ S1.out.2.2.2.2.1 S1.out.2.2.2.1 rfl (by omega)).mono ?_
  rintro e w2 ⟨A3, c3, rfl, ho2, hb2⟩
  rw [HB.out.1] at ho2 ⊢
  rw [HB.out.2]
  have S2 := Lib.hid ((S1.out.call hb2).add (fR A3 c3 []) (own_rd ho2 BB.out))
  clear S1 ho2 hb2
  have cp3 := S2.out.2.1.le
  have cq3 := S2.out.2.1.cap
  rw [show ([] : List Int).length = 0 from rfl]
  go_wp2_with fail
  refine (KM _ _ _ L _ S2.out.2.2.2.2.2.1 S2.out.2.2.2.2.1 rfl (by omega)).mono ?_
  rintro e w3 ⟨rfl, hb3⟩
  rw [HV.out]
  have S3 := Lib.hid (S2.out.call hb3)
  clear S2 hb3
  have S8 := Lib.hid (show Sx w w3 [fR A2 c2 lb, F] from ⟨S3.out.1, S3.out.2.2.1, S3.out.2.2.2.2.2.1, trivial⟩)
  clear S3
  go_wp2_with fail
  refine (KR _ _ _ lb (q : Int) _ S8.out.2.2.1 S8.out.2.1 rfl).mono ?_
  rintro e w9 ⟨A9, c9, rfl, h9, hb9⟩
  rw [HR.out] at h9 ⊢
  simp only at h9
  have hl9 := h9.len
  have S9 := Lib.hid ((S8.out.call hb9).add (fW A9 c9 M) h9)
  clear S8 h9 hb9
  have e9 : ((q + nC : Nat) : Int) = (q : Int) + (nC : Int) := by omega
  simp only
  rw [e9]
  clear e9
  go_wp2_with fail
  refine (KB _ _ _ M _ S9.out.2.2.2.1 S9.out.2.1 rfl (by omega)).mono ?_
  rintro e w10 ⟨A10, c10, rfl, ho10, hb10⟩
  rw [HM.out.1] at ho10 ⊢
  rw [HM.out.2.1, HM.out.2.2]
  have S10 := Lib.hid ((S9.out.call hb10).add (fR A10 c10 C) (own_rd ho10 BC.out))
  clear S9 ho10 hb10
  have cq10 := S10.out.2.1.le
  rw [HM.out.2.2] at cq10
  have hq := HQ.out
  go_upto_region 19 with (fail)
  have hsl := HSL.out
  have j0 : (0 : Int) ≤ (q : Int) := by omega
  have j1 : (q : Int) ≤ (lb.length : Int) := by omega
  have j2 : (q : Int) + (nC : Int) ≤ (lb.length : Int) := by omega
  have j3 : IntKind.i64.wrap ((q : Int) + (nC : Int)) = (q : Int) + (nC : Int) := IntWalk.i64_in _ (by omega)
  refine wp_region_held_drew (S := fun w' => Hid (Sx w w' [fR A10 c10 C, fW A9 c9 M, fR A2 c2 lb, F])) (by kernel_rfl) (Hsx.drew S10) (fun hHeld => ?_)
  refine wpAnyH_take (i := 0) (v := ?_) rfl (by kernel_rfl) (by kernel_rfl) (by kernel_rfl) (fun _ _ _ h => h) (Or.inl ⟨by rfl, ?_⟩) (by assumption) ?_
  rotate_left 1
  · intro w _; go_simp; try with_reducible rfl
  try simp only [Act.put, List.getElem_toArray, List.getElem_cons_zero, List.getElem_cons_succ, List.setIfInBounds_toArray, List.set_cons_zero, List.set_cons_succ]
  refine wpAnyH_take (i := 1) (v := ?_) rfl (by kernel_rfl) (by kernel_rfl) (by kernel_rfl) (fun _ _ _ h => h) (Or.inl ⟨by rfl, ?_⟩) (by assumption) ?_
  rotate_left 1
  · intro w _; go_simp; try with_reducible rfl
  try simp only [Act.put, List.getElem_toArray, List.getElem_cons_zero, List.getElem_cons_succ, List.setIfInBounds_toArray, List.set_cons_zero, List.set_cons_succ]
  refine wpAnyH_take (i := 2) (v := ?_) rfl (by kernel_rfl) (by kernel_rfl) (by kernel_rfl) (fun _ _ _ h => h) (Or.inl ⟨by rfl, ?_⟩) (by assumption) ?_
  rotate_left 1
  · intro w _; go_simp; try with_reducible rfl
  try simp only [Act.put, List.getElem_toArray, List.getElem_cons_zero, List.getElem_cons_succ, List.setIfInBounds_toArray, List.set_cons_zero, List.set_cons_succ]
  refine wpAnyH_take (i := 3) (v := ?_) rfl (by kernel_rfl) (by kernel_rfl) (by kernel_rfl) (fun _ _ _ h => h) (Or.inl ⟨by rfl, ?_⟩) (by assumption) ?_
  rotate_left 1
  · intro w _; go_simp; try with_reducible rfl
  try simp only [Act.put, List.getElem_toArray, List.getElem_cons_zero, List.getElem_cons_succ, List.setIfInBounds_toArray, List.set_cons_zero, List.set_cons_succ]
  refine wpAnyH_ready (rs := [4]) (by kernel_rfl) (by simp) ?_
  refine AllReadyH.cons rfl (fun K hK => ?_) AllReadyH.nil
  go_simp
  refine (KM _ _ _ M _ hHeld.out.2.2.2.2.1 hHeld.out.2.2.1 rfl (by omega)).mono ?_
  rintro e w11 ⟨rfl, hb⟩
  rw [HVM.out]
  go_wp2_with fail
  refine hK.out _ _ (Hsx.call hb hHeld) (fun hHeld => ?_)
  clear hK K
  try simp only [Act.put, List.getElem_toArray, List.getElem_cons_zero, List.getElem_cons_succ, List.setIfInBounds_toArray, List.set_cons_zero, List.set_cons_succ]
  refine wpAnyH_take (i := 5) (v := ?_) rfl (by kernel_rfl) (by kernel_rfl) (by kernel_rfl) (fun _ _ _ h => h) (Or.inl ⟨by rfl, ?_⟩) (by assumption) ?_
  rotate_left 1
  · intro w _; go_simp; try with_reducible rfl
  try simp only [Act.put, List.getElem_toArray, List.getElem_cons_zero, List.getElem_cons_succ, List.setIfInBounds_toArray, List.set_cons_zero, List.set_cons_succ]
  refine wpAnyH_take (i := 6) (v := ?_) rfl (by kernel_rfl) (by kernel_rfl) (by kernel_rfl) (fun _ _ _ h => h) (Or.inl ⟨by rfl, ?_⟩) (by assumption) ?_
  rotate_left 1
  · intro w _; go_simp; try with_reducible rfl
  try simp only [Act.put, List.getElem_toArray, List.getElem_cons_zero, List.getElem_cons_succ, List.setIfInBounds_toArray, List.set_cons_zero, List.set_cons_succ]
  refine wpAnyH_take (i := 7) (v := ?_) rfl (by kernel_rfl) (by kernel_rfl) (by kernel_rfl) (fun _ _ _ h => h) (Or.inl ⟨by rfl, ?_⟩) (by assumption) ?_
  rotate_left 1
  · intro w _; go_simp; try with_reducible rfl
  try simp only [Act.put, List.getElem_toArray, List.getElem_cons_zero, List.getElem_cons_succ, List.setIfInBounds_toArray, List.set_cons_zero, List.set_cons_succ]
  refine wpAnyH_take (i := 8) (v := ?_) rfl (by kernel_rfl) (by kernel_rfl) (by kernel_rfl) (fun _ _ _ h => h) (Or.inl ⟨by rfl, ?_⟩) (by assumption) ?_
  rotate_left 1
  · intro w _; go_simp; try with_reducible rfl
  try simp only [Act.put, List.getElem_toArray, List.getElem_cons_zero, List.getElem_cons_succ, List.setIfInBounds_toArray, List.set_cons_zero, List.set_cons_succ]
  refine wpAnyH_take (i := 9) (v := ?_) rfl (by kernel_rfl) (by kernel_rfl) (by kernel_rfl) (fun _ _ _ h => h) (Or.inl ⟨by rfl, ?_⟩) (by assumption) ?_
  rotate_left 1
  · intro w _; go_simp; try with_reducible rfl
  try simp only [Act.put, List.getElem_toArray, List.getElem_cons_zero, List.getElem_cons_succ, List.setIfInBounds_toArray, List.set_cons_zero, List.set_cons_succ]
  refine wpAnyH_take (i := 10) (v := ?_) rfl (by kernel_rfl) (by kernel_rfl) (by kernel_rfl) (fun _ _ _ h => h) (Or.inl ⟨by rfl, ?_⟩) (by assumption) ?_
  rotate_left 1
  · intro w _; go_simp; try with_reducible rfl
  try simp only [Act.put, List.getElem_toArray, List.getElem_cons_zero, List.getElem_cons_succ, List.setIfInBounds_toArray, List.set_cons_zero, List.set_cons_succ]
  refine wpAnyH_take (i := 11) (v := ?_) rfl (by kernel_rfl) (by kernel_rfl) (by kernel_rfl) (fun _ _ _ h => h) (Or.inl ⟨by rfl, ?_⟩) (by assumption) ?_
  rotate_left 1
  · intro w _; go_simp; try with_reducible rfl
  try simp only [Act.put, List.getElem_toArray, List.getElem_cons_zero, List.getElem_cons_succ, List.setIfInBounds_toArray, List.set_cons_zero, List.set_cons_succ]
  refine wpAnyH_take (i := 12) (v := ?_) rfl (by kernel_rfl) (by kernel_rfl) (by kernel_rfl) (fun _ _ _ h => h) (Or.inl ⟨by rfl, ?_⟩) (by assumption) ?_
  rotate_left 1
  · intro w _; go_simp; try with_reducible rfl
  try simp only [Act.put, List.getElem_toArray, List.getElem_cons_zero, List.getElem_cons_succ, List.setIfInBounds_toArray, List.set_cons_zero, List.set_cons_succ]
  refine wpAnyH_take (i := 13) (v := ?_) rfl (by kernel_rfl) (by kernel_rfl) (by kernel_rfl) (fun _ _ _ h => h) (Or.inl ⟨by rfl, ?_⟩) (by assumption) ?_
  rotate_left 1
  · intro w _; go_simp; try with_reducible rfl
  try simp only [Act.put, List.getElem_toArray, List.getElem_cons_zero, List.getElem_cons_succ, List.setIfInBounds_toArray, List.set_cons_zero, List.set_cons_succ]
  refine wpAnyH_take (i := 14) (v := ?_) rfl (by kernel_rfl) (by kernel_rfl) (by kernel_rfl) (fun _ _ _ h => h) (Or.inl ⟨by rfl, ?_⟩) (by assumption) ?_
  rotate_left 1
  · intro w _; go_simp; try with_reducible rfl
  try simp only [Act.put, List.getElem_toArray, List.getElem_cons_zero, List.getElem_cons_succ, List.setIfInBounds_toArray, List.set_cons_zero, List.set_cons_succ]
  refine wpAnyH_take (i := 15) (v := ?_) rfl (by kernel_rfl) (by kernel_rfl) (by kernel_rfl) (fun _ _ _ h => h) (Or.inl ⟨by rfl, ?_⟩) (by assumption) ?_
  rotate_left 1
  · intro w _; go_simp; try with_reducible rfl
  try simp only [Act.put, List.getElem_toArray, List.getElem_cons_zero, List.getElem_cons_succ, List.setIfInBounds_toArray, List.set_cons_zero, List.set_cons_succ]
  refine wpAnyH_take (i := 16) (v := ?_) rfl (by kernel_rfl) (by kernel_rfl) (by kernel_rfl) (fun _ _ _ h => h) (Or.inl ⟨by rfl, ?_⟩) (by assumption) ?_
  rotate_left 1
  · intro w _; go_simp; try with_reducible rfl
  try simp only [Act.put, List.getElem_toArray, List.getElem_cons_zero, List.getElem_cons_succ, List.setIfInBounds_toArray, List.set_cons_zero, List.set_cons_succ]
  refine wpAnyH_take (i := 17) (v := ?_) rfl (by kernel_rfl) (by kernel_rfl) (by kernel_rfl) (fun _ _ _ h => h) (Or.inl ⟨by rfl, ?_⟩) (by assumption) ?_
  rotate_left 1
  · intro w _; go_simp; try with_reducible rfl
  try simp only [Act.put, List.getElem_toArray, List.getElem_cons_zero, List.getElem_cons_succ, List.setIfInBounds_toArray, List.set_cons_zero, List.set_cons_succ]
  refine wpAnyH_take (i := 18) (v := ?_) rfl (by kernel_rfl) (by kernel_rfl) (by kernel_rfl) (fun _ _ _ h => h) (Or.inl ⟨by rfl, ?_⟩) (by assumption) ?_
  rotate_left 1
  · intro w _; go_simp; try with_reducible rfl
  try simp only [Act.put, List.getElem_toArray, List.getElem_cons_zero, List.getElem_cons_succ, List.setIfInBounds_toArray, List.set_cons_zero, List.set_cons_succ]
  refine wpAnyH_take (i := 19) (v := ?_) rfl (by kernel_rfl) (by kernel_rfl) (by kernel_rfl) (fun _ _ _ h => h) (Or.inl ⟨by rfl, ?_⟩) (by assumption) ?_
  rotate_left 1
  · intro w _; go_simp; try with_reducible rfl
  try simp only [Act.put, List.getElem_toArray, List.getElem_cons_zero, List.getElem_cons_succ, List.setIfInBounds_toArray, List.set_cons_zero, List.set_cons_succ]
  refine wpAnyH_take (i := 20) (v := ?_) rfl (by kernel_rfl) (by kernel_rfl) (by kernel_rfl) (fun _ _ _ h => h) (Or.inl ⟨by rfl, ?_⟩) (by assumption) ?_
  rotate_left 1
  · intro w _; go_simp; try with_reducible rfl
  try simp only [Act.put, List.getElem_toArray, List.getElem_cons_zero, List.getElem_cons_succ, List.setIfInBounds_toArray, List.set_cons_zero, List.set_cons_succ]
  refine wpAnyH_take (i := 21) (v := ?_) rfl (by kernel_rfl) (by kernel_rfl) (by kernel_rfl) (fun _ _ _ h => h) (Or.inl ⟨by rfl, ?_⟩) (by assumption) ?_
  rotate_left 1
  · intro w _; go_simp; try with_reducible rfl
  try simp only [Act.put, List.getElem_toArray, List.getElem_cons_zero, List.getElem_cons_succ, List.setIfInBounds_toArray, List.set_cons_zero, List.set_cons_succ]
  refine wpAnyH_take (i := 22) (v := ?_) rfl (by kernel_rfl) (by kernel_rfl) (by kernel_rfl) (fun _ _ _ h => h) (Or.inl ⟨by rfl, ?_⟩) (by assumption) ?_
  rotate_left 1
  · intro w _; go_simp; try with_reducible rfl
  try simp only [Act.put, List.getElem_toArray, List.getElem_cons_zero, List.getElem_cons_succ, List.setIfInBounds_toArray, List.set_cons_zero, List.set_cons_succ]
  refine wpAnyH_take (i := 23) (v := ?_) rfl (by kernel_rfl) (by kernel_rfl) (by kernel_rfl) (fun _ _ _ h => h) (Or.inl ⟨by rfl, ?_⟩) (by assumption) ?_
  rotate_left 1
  · intro w _; go_simp; try with_reducible rfl
  try simp only [Act.put, List.getElem_toArray, List.getElem_cons_zero, List.getElem_cons_succ, List.setIfInBounds_toArray, List.set_cons_zero, List.set_cons_succ]
  refine wpAnyH_take (i := 24) (v := ?_) rfl (by kernel_rfl) (by kernel_rfl) (by kernel_rfl) (fun _ _ _ h => h) (Or.inl ⟨by rfl, ?_⟩) (by assumption) ?_
  rotate_left 1
  · intro w _; go_simp; try with_reducible rfl
  try simp only [Act.put, List.getElem_toArray, List.getElem_cons_zero, List.getElem_cons_succ, List.setIfInBounds_toArray, List.set_cons_zero, List.set_cons_succ]
  refine wpAnyH_take (i := 25) (v := ?_) rfl (by kernel_rfl) (by kernel_rfl) (by kernel_rfl) (fun _ _ _ h => h) (Or.inl ⟨by rfl, ?_⟩) (by assumption) ?_
  rotate_left 1
  · intro w _; go_simp; try with_reducible rfl
  try simp only [Act.put, List.getElem_toArray, List.getElem_cons_zero, List.getElem_cons_succ, List.setIfInBounds_toArray, List.set_cons_zero, List.set_cons_succ]
  refine wpAnyH_take (i := 26) (v := ?_) rfl (by kernel_rfl) (by kernel_rfl) (by kernel_rfl) (fun _ _ _ h => h) (Or.inl ⟨by rfl, ?_⟩) (by assumption) ?_
  rotate_left 1
  · intro w _; go_simp; try with_reducible rfl
  try simp only [Act.put, List.getElem_toArray, List.getElem_cons_zero, List.getElem_cons_succ, List.setIfInBounds_toArray, List.set_cons_zero, List.set_cons_succ]
  refine wpAnyH_take (i := 27) (v := ?_) rfl (by kernel_rfl) (by kernel_rfl) (by kernel_rfl) (fun _ _ _ h => h) (Or.inl ⟨by rfl, ?_⟩) (by assumption) ?_
  rotate_left 1
  · intro w _; go_simp; try with_reducible rfl
  try simp only [Act.put, List.getElem_toArray, List.getElem_cons_zero, List.getElem_cons_succ, List.setIfInBounds_toArray, List.set_cons_zero, List.set_cons_succ]
  refine wpAnyH_take (i := 28) (v := ?_) rfl (by kernel_rfl) (by kernel_rfl) (by kernel_rfl) (fun _ _ _ h => h) (Or.inl ⟨by rfl, ?_⟩) (by assumption) ?_
  rotate_left 1
  · intro w _; go_simp; try with_reducible rfl
  try simp only [Act.put, List.getElem_toArray, List.getElem_cons_zero, List.getElem_cons_succ, List.setIfInBounds_toArray, List.set_cons_zero, List.set_cons_succ]
  refine wpAnyH_take (i := 29) (v := ?_) rfl (by kernel_rfl) (by kernel_rfl) (by kernel_rfl) (fun _ _ _ h => h) (Or.inl ⟨by rfl, ?_⟩) (by assumption) ?_
  rotate_left 1
  · intro w _; go_simp; try with_reducible rfl
  try simp only [Act.put, List.getElem_toArray, List.getElem_cons_zero, List.getElem_cons_succ, List.setIfInBounds_toArray, List.set_cons_zero, List.set_cons_succ]
  refine wpAnyH_take (i := 30) (v := ?_) rfl (by kernel_rfl) (by kernel_rfl) (by kernel_rfl) (fun _ _ _ h => h) (Or.inl ⟨by rfl, ?_⟩) (by assumption) ?_
  rotate_left 1
  · intro w _; go_simp; try with_reducible rfl
  try simp only [Act.put, List.getElem_toArray, List.getElem_cons_zero, List.getElem_cons_succ, List.setIfInBounds_toArray, List.set_cons_zero, List.set_cons_succ]
  refine wpAnyH_take (i := 31) (v := ?_) rfl (by kernel_rfl) (by kernel_rfl) (by kernel_rfl) (fun _ _ _ h => h) (Or.inl ⟨by rfl, ?_⟩) (by assumption) ?_
  rotate_left 1
  · intro w _; go_simp; try with_reducible rfl
  try simp only [Act.put, List.getElem_toArray, List.getElem_cons_zero, List.getElem_cons_succ, List.setIfInBounds_toArray, List.set_cons_zero, List.set_cons_succ]
  refine wpAnyH_take (i := 32) (v := ?_) rfl (by kernel_rfl) (by kernel_rfl) (by kernel_rfl) (fun _ _ _ h => h) (Or.inl ⟨by rfl, ?_⟩) (by assumption) ?_
  rotate_left 1
  · intro w hSw; (try dsimp only at hSw); have h5 := hSw.out.2.1; have h6 := rd_string (P := Tryd.prog) h5 26 9 5 Tryd.underlying26 Tryd.underlying5 Tryd.underlying9; rw [HM.out.2.2, HS.out] at h6; clear h5 hSw; go_simp; try with_reducible rfl
  try simp only [Act.put, List.getElem_toArray, List.getElem_cons_zero, List.getElem_cons_succ, List.setIfInBounds_toArray, List.set_cons_zero, List.set_cons_succ]
  refine wpAnyH_take (i := 33) (v := ?_) rfl (by kernel_rfl) (by kernel_rfl) (by kernel_rfl) (fun _ _ _ h => h) (Or.inl ⟨by rfl, ?_⟩) (by assumption) ?_
  rotate_left 1
  · intro w _; go_simp; try with_reducible rfl
  try simp only [Act.put, List.getElem_toArray, List.getElem_cons_zero, List.getElem_cons_succ, List.setIfInBounds_toArray, List.set_cons_zero, List.set_cons_succ]
  refine wpAnyH_take (i := 34) (v := ?_) rfl (by kernel_rfl) (by kernel_rfl) (by kernel_rfl) (fun _ _ _ h => h) (Or.inl ⟨by rfl, ?_⟩) (by assumption) ?_
  rotate_left 1
  · intro w _; go_simp; try with_reducible rfl
  try simp only [Act.put, List.getElem_toArray, List.getElem_cons_zero, List.getElem_cons_succ, List.setIfInBounds_toArray, List.set_cons_zero, List.set_cons_succ]
  refine wpAnyH_take (i := 35) (v := ?_) rfl (by kernel_rfl) (by kernel_rfl) (by kernel_rfl) (fun _ _ _ h => h) (Or.inl ⟨by rfl, ?_⟩) (by assumption) ?_
  rotate_left 1
  · intro w _; go_simp; try with_reducible rfl
  try simp only [Act.put, List.getElem_toArray, List.getElem_cons_zero, List.getElem_cons_succ, List.setIfInBounds_toArray, List.set_cons_zero, List.set_cons_succ]
  refine wpAnyH_take (i := 36) (v := ?_) rfl (by kernel_rfl) (by kernel_rfl) (by kernel_rfl) (fun _ _ _ h => h) (Or.inl ⟨by rfl, ?_⟩) (by assumption) ?_
  rotate_left 1
  · intro w _; go_simp; try with_reducible rfl
  try simp only [Act.put, List.getElem_toArray, List.getElem_cons_zero, List.getElem_cons_succ, List.setIfInBounds_toArray, List.set_cons_zero, List.set_cons_succ]
  refine wpAnyH_take (i := 37) (v := ?_) rfl (by kernel_rfl) (by kernel_rfl) (by kernel_rfl) (fun _ _ _ h => h) (Or.inl ⟨by rfl, ?_⟩) (by assumption) ?_
  rotate_left 1
  · intro w hSw; (try dsimp only at hSw); have h5 := HRS.out _ hSw.out.2.2.2.1; have h6 := rd_string (P := Tryd.prog) h5 26 9 5 Tryd.underlying26 Tryd.underlying5 Tryd.underlying9; rw [HM.out.2.2, HS.out] at h6; clear h5 hSw; go_simp; try with_reducible rfl
  try simp only [Act.put, List.getElem_toArray, List.getElem_cons_zero, List.getElem_cons_succ, List.setIfInBounds_toArray, List.set_cons_zero, List.set_cons_succ]
  refine wpAnyH_take (i := 38) (v := ?_) rfl (by kernel_rfl) (by kernel_rfl) (by kernel_rfl) (fun _ _ _ h => h) (Or.inl ⟨by rfl, ?_⟩) (by assumption) ?_
  rotate_left 1
  · intro w _; go_simp; try with_reducible rfl
  try simp only [Act.put, List.getElem_toArray, List.getElem_cons_zero, List.getElem_cons_succ, List.setIfInBounds_toArray, List.set_cons_zero, List.set_cons_succ]
  refine wpAnyH_take (i := 39) (v := ?_) rfl (by kernel_rfl) (by kernel_rfl) (by kernel_rfl) (fun _ _ _ h => h) (Or.inl ⟨by rfl, ?_⟩) (by assumption) ?_
  rotate_left 1
  · intro w _; go_simp; try with_reducible rfl
  try simp only [Act.put, List.getElem_toArray, List.getElem_cons_zero, List.getElem_cons_succ, List.setIfInBounds_toArray, List.set_cons_zero, List.set_cons_succ]
  refine wpAnyH_take (i := 40) (v := ?_) rfl (by kernel_rfl) (by kernel_rfl) (by kernel_rfl) (fun _ _ _ h => h) (Or.inl ⟨by rfl, ?_⟩) (by assumption) ?_
  rotate_left 1
  · intro w _; go_simp; try with_reducible rfl
  try simp only [Act.put, List.getElem_toArray, List.getElem_cons_zero, List.getElem_cons_succ, List.setIfInBounds_toArray, List.set_cons_zero, List.set_cons_succ]
  refine wpAnyH_done (by kernel_rfl) ?_ _
  go_wp2_with fail
  go_ret
  exact ⟨rfl, hHeld.out.1⟩
set_option maxRecDepth 100000 in
set_option maxHeartbeats 4000000 in
theorem pback_fn (F : Fct) (KM : KPMay F) (KB : KPBytes F) (KR : KPRead F) (KA : KPAdd F) (A A1 A2 : Option Addr) (c c1 c2 : Nat) (L : List Vlu) (la lb B : List Int) (p e0 : Int) (w : World) (hw : F.p w) (hr : Rv w A c L) (ha : Rd w A1 c1 la) (hb : Rd w A2 c2 lb) (hl : L.length ≤ 1000 ∧ la.length ≤ 300 ∧ lb.length ≤ 1500)
    (hB : poL L = B ∧ poE L = 60) (hv : poM L = false) (hbB : Byt B) (hBl : B.length ≤ 1000) (hB0 : B = []) (hR : rdP lb p = ([], 0, e0)) (he : (e0 != 0) = true) :
    Calls Tryd.prog 5 #[.slice A L.length c, .slice A1 la.length c1, .slice A2 lb.length c2, .int .i64 p] w fun e w' => e = .returned (.bool true) ∧ Below w.heap.size w w' := by
  obtain ⟨i0, hi, hz0, hz1, hz2⟩ := info_p Tryd.info5
  have HB := Lib.hid hB
  have HV := Lib.hid hv
  have BB := Lib.hid hbB
  have HR := Lib.hid hR
  have cap0 := hr.len
  have cap1 := ha.cap
  have cap2 := hb.cap
  have cpa := ha.le
  have cpb := hb.le
  have S0 := Lib.hid (((((Sx.start w).add F hw).add (fW A c L) hr).add (fR A1 c1 la) ha).add (fR A2 c2 lb) hb)
  subst hB0
  have HE := Lib.hid he
  clear hB hv hbB hR hw hr ha hb he
  go_enter Tryd.func5, Tryd.ntmps5
  go_wp2_with fail
  refine (pawake_any F KB KR KA _ S0.out.2.2.2.2.1).mono ?_
  rintro e w1 ⟨rfl, hb1⟩
  have S1 := Lib.hid (S0.out.call hb1)
  clear S0 hb1
  go_wp2_with fail
  refine (KB _ _ _ L _ S1.out.2.2.2.2.1 S1.out.2.2.2.1 rfl (by omega)).mono ?_
  rintro e w2 ⟨A3, c3, rfl, ho2, hb2⟩
  rw [HB.out.1] at ho2 ⊢
  rw [HB.out.2]
  have S2 := Lib.hid ((S1.out.call hb2).add (fR A3 c3 []) (own_rd ho2 BB.out))
  clear S1 ho2 hb2
  have cp3 := S2.out.2.1.le
  have cq3 := S2.out.2.1.cap
  rw [show ([] : List Int).length = 0 from rfl]
  go_wp2_with fail
  refine (KM _ _ _ L _ S2.out.2.2.2.2.2.1 S2.out.2.2.2.2.1 rfl (by omega)).mono ?_
  rintro e w3 ⟨rfl, hb3⟩
  rw [HV.out]
  have S3 := Lib.hid (S2.out.call hb3)
  clear S2 hb3
  have S8 := Lib.hid (show Sx w w3 [fR A2 c2 lb, F] from ⟨S3.out.1, S3.out.2.2.1, S3.out.2.2.2.2.2.1, trivial⟩)
  clear S3
  go_wp2_with fail
  refine (KR _ _ _ lb p _ S8.out.2.2.1 S8.out.2.1 rfl).mono ?_
  rintro e w9 ⟨A9, c9, rfl, h9, hb9⟩
  rw [HR.out] at h9 ⊢
  simp only at h9
  have S9 := Lib.hid (S8.out.call hb9)
  clear S8 h9 hb9
  simp only
  rw [show ([] : List Vlu).length = 0 from rfl]
  have he := HE.out
  go_wp2_with fail
  go_ret
  exact ⟨rfl, S9.out.1⟩
theorem pback_walk (F : Fct) (KM : KPMay F) (KB : KPBytes F) (KR : KPRead F) (KA : KPAdd F) (A A1 A2 : Option Addr) (c n c1 n1 c2 n2 : Nat) (L : List Vlu) (la lb : List Int) (p : Int) (w : World) (hw : F.p w) (hr : Rv w A c L) (ha : Rd w A1 c1 la) (hb : Rd w A2 c2 lb) (hn : L.length = n) (hn1 : la.length = n1) (hn2 : lb.length = n2) :
    Calls Tryd.prog 5 #[.slice A n c, .slice A1 n1 c1, .slice A2 n2 c2, .int .i64 p] w fun e w' => e = .returned (.bool true) ∧ Below w.heap.size w w' := by
  subst hn hn1 hn2
  have cap0 := hr.len
  have cap1 := ha.len
  have cap2 := hb.len
  by_cases hl : L.length ≤ 1000 ∧ la.length ≤ 300 ∧ lb.length ≤ 1500
  · have good : poM L = true → (poL L = poB L ∧ poE L = 0) ∧ Byt (poB L) ∧ (poB L).length ≤ 1000 ∧ rdP (la ++ (poB L ++ lb)) la.length = (L, ((la.length + (poB L).length : Nat) : Int), 0) ∧ rdP ((poB L).take ((poB L).length - 1)) 0 = ([], 0, 10) ∧ 1 ≤ (poB L).length := fun h =>
      ⟨⟨by rw [poL, if_pos h], by rw [poE, if_pos h]⟩, poB_byt (poM_le h), by have := poL_len L; rw [poL, if_pos h] at this; omega, rdP_enc h hr.1 la lb ha.byt hb.byt, by have := rdP_cut h hr.1; rwa [List.dropLast_eq_take] at this, by rw [poB, List.length_cons]; omega⟩
    have bad : poM L = false → (poL L = [] ∧ poE L = 60) := fun h => ⟨by rw [poL, if_neg (by rw [h]; decide)], by rw [poE, if_neg (by rw [h]; decide)]⟩
    by_cases h0 : (rdP lb p).2.2 = 0
    · obtain ⟨M, n, hR⟩ : ∃ M n, rdP lb p = (M, n, 0) := ⟨(rdP lb p).1, (rdP lb p).2.1, by rw [← h0]⟩
      obtain ⟨m1, m2, j, q, rfl, rfl, m5, m6, m7⟩ := rdP_inv hb.byt hR
      subst m6
      have hC : (lb.drop j).take (poB M).length = poB M := by rw [m7, List.take_left]
      have hM : poL M = poB M ∧ poE M = 0 ∧ (poB M).length = (poB M).length := ⟨by rw [poL, if_pos m1], by rw [poE, if_pos m1], rfl⟩
      have hMl : M.length ≤ 1000 := by have := poM_le m1; omega
      cases hv : poM L with
      | true =>
        obtain ⟨g1, g2, g3, g4, g5, g6⟩ := good hv
        exact pback_gk F KM KB KR KA A A1 A2 c c1 c2 L la lb (poB L) M (poB M) j _ w hw hr ha hb hl g1 hv g2 g3 g4 g5 g6 hR hM m1 hMl (poB_byt (poM_le m1)) m5 hC
      | false =>
        exact pback_fk F KM KB KR KA A A1 A2 c c1 c2 L la lb [] M (poB M) j _ w hw hr ha hb hl (bad hv) hv (fun x hx => by cases hx) (by decide) rfl hR hM m1 hMl (poB_byt (poM_le m1)) m5 hC
    · have hR := rdP_err h0
      have he : ((rdP lb p).2.2 != 0) = true := by simpa using h0
      cases hv : poM L with
      | true =>
        obtain ⟨g1, g2, g3, g4, g5, g6⟩ := good hv
        exact pback_gn F KM KB KR KA A A1 A2 c c1 c2 L la lb (poB L) p _ w hw hr ha hb hl g1 hv g2 g3 g4 g5 g6 hR he
      | false =>
        exact pback_fn F KM KB KR KA A A1 A2 c c1 c2 L la lb [] p _ w hw hr ha hb hl (bad hv) hv (fun x hx => by cases hx) (by decide) rfl hR he
  · have S0 := Lib.hid ((Sx.start w).add F hw)
    have hcut : 1000 < L.length ∨ (L.length ≤ 1000 ∧ 300 < la.length) ∨ (L.length ≤ 1000 ∧ la.length ≤ 300 ∧ 1500 < lb.length) := by omega
    clear hl hw hr ha hb
    rcases hcut with h | ⟨h, h2⟩ | ⟨h, h2, h3⟩
    all_goals
      go_enter Tryd.func5, Tryd.ntmps5
      go_wp2_with fail
      refine (pawake_any F KB KR KA _ S0.out.2.1).mono ?_
      rintro e w1 ⟨rfl, hb1⟩
      have S1 := Lib.hid (S0.out.call hb1)
      go_wp2_with fail
      go_ret
      exact ⟨rfl, S1.out.1⟩
end Go.Proofs.YtohbndjfnakelaaDoor
