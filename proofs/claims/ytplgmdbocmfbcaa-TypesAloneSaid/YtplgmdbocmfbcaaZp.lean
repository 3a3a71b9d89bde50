/-
  Layer 10: the law TypesWay.
-/
import Derived.Test.YtplgmdbocmfbcaaZm
import Derived.Test.YtplgmdbocmfbcaaZo
import Derived.Test.YtplgmdbocmfbcaaTn
import Derived.Test.YtplgmdbocmfbcaaFrb
namespace Go.Proofs.Ytplgmdbocmfbcaa
open Go.RowKit
set_option maxRecDepth 100000
set_option linter.unusedSimpArgs false
set_option linter.unusedVariables false

abbrev fA8 (p : Addr) (z : Me) : Fct := ⟨fun w => At8 w p z, fun _ _ h hb => h.keep hb⟩
def A3w (w : World) (p : Addr) (o a z : Int) : Prop := w.cell? p = some (.int .u8 o) ∧ w.cell? ⟨p.block, p.off + 1, none⟩ = some (.int .i64 a) ∧ w.cell? ⟨p.block, p.off + 2, none⟩ = some (.int .i64 z)
abbrev fA3w (p : Addr) (o a z : Int) : Fct := ⟨fun w => A3w w p o a z, fun _ _ h hb => ⟨(hb.cell (cell_lt h.1)).trans h.1, (hb.cell (cell_lt h.2.1)).trans h.2.1, (hb.cell (cell_lt h.2.2)).trans h.2.2⟩⟩
set_option maxHeartbeats 16000000 in
theorem way10_walk (y : Ma) (d : Md) (k : Int) (A2 : Option Addr) (c2 m2 : Nat) (WB : List Bool) (w : World) (hq : Hq w y d) (hrb : Rb9 w A2 c2 WB) (hwb : WB.length = m2) : Calls Try.prog 3 #[dv y d, .int .i64 k, .slice A2 m2 c2] w fun e w' => e = .returned (.bool true) ∧ Below w.heap.size w w' := by
  have HRB0 := Lib.hid hrb
  have HWB := Lib.hid hwb
  have hm2l : m2 ≤ 9223372036854775807 := by have := hrb.1; have := hrb.2.1; unfold maxLen at this; omega
  clear hrb hwb
  obtain ⟨G, gc, P, pc, AA, cc, Z⟩ := y
  have S0 := Lib.hid ((((Sx.start w).add (fQm ⟨G, gc, P, pc, AA, cc, Z⟩ d) hq).mkD ⟨G, gc, P, pc, AA, cc, Z⟩ d))
  have HZL := Lib.hid hq.zlen
  obtain ⟨B, hB⟩ : ∃ B, w.heap.size = B := ⟨_, rfl⟩
  have HBB := Lib.hid hB
  rw [hB] at S0
  clear hq
  go_enter Try.func3, Try.ntmps3
  go_upto_region 1 with (fail)
  change Code.wp _ _ _ _ (w.alloc (dcel ⟨G, gc, P, pc, AA, cc, Z⟩ d))
  generalize w.alloc (dcel ⟨G, gc, P, pc, AA, cc, Z⟩ d) = w1 at S0 ⊢
  clear hB
  have HAW := Lib.hid (awake10_any (ktrows F0) (ktcheck F0) (ktheight F0) w1 trivial)
  go_wp2_with fail
  refine HAW.out.mono ?_
  rintro r w2 ⟨rfl, hb⟩
  have S2 := Lib.hid (S0.out.call hb)
  clear HAW hb S0
  have HGR := Lib.hid (great8_v ⟨G, gc, P, pc, AA, cc, Z⟩ d w2 S2.out.2.2.1)
  obtain ⟨-, ⟨d0, d1, d2, d3, d4⟩, -⟩ := S2.out
  dsimp only at d1 d2 d3
  go_wp2_with fail
  refine HGR.out.mono ?_
  rintro r w3 ⟨rfl, hb⟩
  have S3 := Lib.hid (S2.out.call hb)
  clear HGR hb S2 d0 d1 d2 d3 d4
  cases hg : qG d with
  | true =>
    go_wp2_with fail
    go_ret
    exact ⟨rfl, S3.out.1⟩
  | false =>
  have HG := Lib.hid hg
  clear hg
  have HRO := Lib.hid (trows_v ⟨G, gc, P, pc, AA, cc, Z⟩ d k w3 S3.out.2.2.1 HG.out)
  obtain ⟨E, hE⟩ : ∃ E, (rw10s d k).2 = E := ⟨_, rfl⟩
  have HE := Lib.hid hE
  obtain ⟨-, ⟨d0, d1, d2, d3, d4⟩, -⟩ := S3.out
  dsimp only at d1 d2 d3
  go_wp2_with fail
  refine HRO.out.mono ?_
  rintro r w4 ⟨A, c, R, rfl, hrz, hrw, hb⟩
  rw [hE]
  have S4 := Lib.hid ((S3.out.call hb).add (fRw A c R) hrw)
  have HRZ := Lib.hid hrz
  clear HRO hb hrz hrw S3 d0 d1 d2 d3 d4 hE
  by_cases h0 : E = 0
  case neg =>
    have hne : (E != 0) = true := by simpa using h0
    have hn0 := rw10s_no (by rw [HE.out]; exact h0)
    have hR : R = [] := by
      have h := HRZ.out
      rw [hn0] at h
      exact List.map_eq_nil_iff.1 h
    subst hR
    go_wp2_with fail
    go_ret
    exact ⟨rfl, S4.out.1⟩
  subst h0
  obtain ⟨n, h, L, rfl, hns, hdn, hfl, hth, hrl, hI⟩ := rw10s_ok HE.out
  rw [← HRZ.out] at hrl hI
  rw [List.length_map] at hrl
  have hcod := codM_all (flE9_zero hfl).1
  obtain ⟨sn, hsn⟩ : ∃ sn, d.s.length = sn := ⟨_, rfl⟩
  have HSN := Lib.hid hsn
  have hs40 : sn ≤ 40 := by
    have hg := HG.out
    rw [← hsn]
    simp only [qG, Bool.or_eq_false_iff, decide_eq_false_iff_not] at hg
    omega
  have HBQ : Hid (h.a.length ≤ 100 ∧ h.l.length ≤ 100) := Lib.hid (by
    have hg := HG.out
    simp only [qG, Bool.or_eq_false_iff, decide_eq_false_iff_not, List.any_eq_false] at hg
    have hh := hg.2.2.2 _ (List.mem_of_getElem? hdn)
    simp only [qgE, gB, Bool.or_eq_true, decide_eq_true_eq, not_or] at hh
    omega)
  rw [hsn] at hns
  have hzl : Z.length = sn := HZL.out.trans hsn
  obtain ⟨ad8, hA8, hat, hok⟩ := S4.out.2.2.2.1.2.2.1.at_ (i := n) (by show n < Z.length; rw [hzl]; exact hns)
  have hme := S4.out.2.2.2.1.zat (i := n) (by show n < Z.length; rw [hzl]; exact hns) (by rw [hsn]; exact hns)
  dsimp only at hA8 hat hok hme
  obtain ⟨zz, hzz⟩ : ∃ zz, Z[n]'(by rw [hzl]; exact hns) = zz := ⟨_, rfl⟩
  rw [hzz] at hat hok hme
  have hdn2 := List.getElem?_eq_getElem (l := d.s) (i := n) (by rw [hsn]; exact hns)
  rw [hdn, hme] at hdn2
  injection hdn2 with hdn2
  obtain ⟨⟨XA, xc, XB, xd, XD, xk, xe⟩, h', L'⟩ := zz
  injection hdn2 with e1 e2
  subst e1 e2
  subst hA8
  obtain ⟨hH, hRi, hxk⟩ := hok
  dsimp only at hH hRi hxk hat
  obtain ⟨mm, hm⟩ : ∃ mm, L.length = mm := ⟨_, rfl⟩
  obtain rfl : mm = xk := by rw [← hm]; exact hxk
  obtain ⟨⟨o0, a0, z0⟩, hx0⟩ : ∃ x, L[0]? = some x := ⟨_, List.getElem?_eq_getElem hcod.1⟩
  obtain ⟨al, hAl, -⟩ := hRi.at9 hx0
  subst hAl
  have HLm := Lib.hid hm
  have HFL := Lib.hid hfl
  have HTH := Lib.hid hth
  have hm1 : 1 ≤ mm := by rw [← hm]; exact hcod.1
  have hm2 : mm ≤ 200 := by rw [← hm]; exact hcod.2.1
  rw [hm] at hrl
  have HRL := Lib.hid hrl
  have HI := Lib.hid hI
  obtain ⟨⟨r0, C0, b0, K0⟩, hz0⟩ : ∃ z, R[0]? = some z := ⟨_, List.getElem?_eq_getElem (by omega)⟩
  have hf := hI.first
  rw [map_rz10 hz0] at hf
  injection hf with e1 e2
  dsimp only at e1 e2
  subst e1 e2
  obtain ⟨adr, hAr, ⟨p00, p01⟩, -⟩ := S4.out.2.1.at_ hz0
  subst hAr
  dsimp only at p00 p01
  simp [go_sem] at p00 p01
  have S5 : Hid (Sx w w4 [fD B ⟨G, gc, P, pc, (some ad8), cc, Z⟩ d, fQm ⟨G, gc, P, pc, (some ad8), cc, Z⟩ d, fRw (some adr) c R, fT (some al) xe L, fH ⟨XA, xc, XB, xd, (some al), mm, xe⟩ h]) := Lib.hid ⟨S4.out.1, S4.out.2.2.1, S4.out.2.2.2.1, S4.out.2.1, hRi, hH, trivial⟩
  have HAT8 : Hid (At8 w4 (ad8.add (n * 8)) ⟨⟨XA, xc, XB, xd, (some al), mm, xe⟩, h, L⟩) := Lib.hid hat
  obtain ⟨g0, g1, g2, g3, g4, g5, g6, g7⟩ := hat
  dsimp only at g7
  have hns2 : n < sn := hns
  have q1 : decide ((n : Int) < 0) = false := by simp
  have q2 : decide (sn ≤ n) = false := by simp; omega
  have q3 : ((mm : Int) == 0) = false := by simp; omega
  have q4 : ((mm : Int) != mm) = false := by simp
  clear hdn hfl hth hcod hsn hzl hme hzz hm hxk hx0 hRi hH hI hz0 S4 hrl
  obtain ⟨-, ⟨d0, d1, d2, d3, d4⟩, -⟩ := S5.out
  dsimp only at d1 d2 d3
  rw [HSN.out] at d3
  have hbq : h.a.length ≤ 100 ∧ h.l.length ≤ 100 := HBQ.out
  obtain ⟨hb1, hb2⟩ : h.a.length ≤ 1000 ∧ h.l.length ≤ 1000 := by omega
  have S8 : Hid (Sx w w4 [fA8 (ad8.add (n * 8)) ⟨⟨XA, xc, XB, xd, (some al), mm, xe⟩, h, L⟩, fD B ⟨G, gc, P, pc, (some ad8), cc, Z⟩ d, fQm ⟨G, gc, P, pc, (some ad8), cc, Z⟩ d, fRw (some adr) c R, fT (some al) xe L, fH ⟨XA, xc, XB, xd, (some al), mm, xe⟩ h]) := Lib.hid ⟨S5.out.1, HAT8.out, S5.out.2.1, S5.out.2.2.1, S5.out.2.2.2.1, S5.out.2.2.2.2.1, S5.out.2.2.2.2.2.1, trivial⟩
  have HNN : Hid (∀ x ∈ L, 0 ≤ x.2.1) := Lib.hid fun x hx => inM_nn ((codM_all (flE9_zero HFL.out).1).2.2 x hx)
  rw [HRL.out]
  clear g0 g1 g2 g3 g4 g5 g6 g7 d0 d1 d2 d3 d4 p00 p01 S5 HAT8 hbq
  go_upto_region 8 with (fail)
  refine wp_region_held_drew (S := fun w' => Hid (Sx w w' [fA8 (ad8.add (n * 8)) ⟨⟨XA, xc, XB, xd, (some al), mm, xe⟩, h, L⟩, fD B ⟨G, gc, P, pc, (some ad8), cc, Z⟩ d, fQm ⟨G, gc, P, pc, (some ad8), cc, Z⟩ d, fRw (some adr) c R, fT (some al) xe L, fH ⟨XA, xc, XB, xd, (some al), mm, xe⟩ h])) (by kernel_rfl) (Hsx.drew S8) (fun hHeld => ?_)
  refine wpAnyH_take (i := 0) (v := ?_) rfl (by kernel_rfl) (by kernel_rfl) (by kernel_rfl) (fun _ _ _ h => h) (Or.inl ⟨by rfl, ?_⟩) (by assumption) ?_
  rotate_left 1
  · intro w _; go_simp; try with_reducible rfl
  try simp only [Act.put, List.getElem_toArray, List.getElem_cons_zero, List.getElem_cons_succ, List.setIfInBounds_toArray, List.set_cons_zero, List.set_cons_succ]
  refine wpAnyH_take (i := 1) (v := ?_) rfl (by kernel_rfl) (by kernel_rfl) (by kernel_rfl) (fun _ _ _ h => h) (Or.inl ⟨by rfl, ?_⟩) (by assumption) ?_
  rotate_left 1
  · intro w _; go_simp; try with_reducible rfl
  try simp only [Act.put, List.getElem_toArray, List.getElem_cons_zero, List.getElem_cons_succ, List.setIfInBounds_toArray, List.set_cons_zero, List.set_cons_succ]
  refine wpAnyH_take (i := 2) (v := ?_) rfl (by kernel_rfl) (by kernel_rfl) (by kernel_rfl) (fun _ _ _ h => h) (Or.inl ⟨by rfl, ?_⟩) (by assumption) ?_
  rotate_left 1
  · intro w _; go_simp; try with_reducible rfl
  try simp only [Act.put, List.getElem_toArray, List.getElem_cons_zero, List.getElem_cons_succ, List.setIfInBounds_toArray, List.set_cons_zero, List.set_cons_succ]
  refine wpAnyH_take (i := 3) (v := ?_) rfl (by kernel_rfl) (by kernel_rfl) (by kernel_rfl) (fun _ _ _ h => h) (Or.inl ⟨by rfl, ?_⟩) (by assumption) ?_
  rotate_left 1
  · intro w _; go_simp; try with_reducible rfl
  try simp only [Act.put, List.getElem_toArray, List.getElem_cons_zero, List.getElem_cons_succ, List.setIfInBounds_toArray, List.set_cons_zero, List.set_cons_succ]
  refine wpAnyH_take (i := 4) (v := ?_) rfl (by kernel_rfl) (by kernel_rfl) (by kernel_rfl) (fun _ _ _ h => h) (Or.inl ⟨by rfl, ?_⟩) (by assumption) ?_
  rotate_left 1
  · intro w _; go_simp; try with_reducible rfl
  try simp only [Act.put, List.getElem_toArray, List.getElem_cons_zero, List.getElem_cons_succ, List.setIfInBounds_toArray, List.set_cons_zero, List.set_cons_succ]
  refine wpAnyH_take (i := 5) (v := ?_) rfl (by kernel_rfl) (by kernel_rfl) (by kernel_rfl) (fun _ _ _ h => h) (Or.inl ⟨by rfl, ?_⟩) (by assumption) ?_
  rotate_left 1
  · intro w hSw; (try dsimp only at hSw); obtain ⟨-, ⟨g0, g1, g2, g3, g4, g5, g6, g7⟩, ⟨d0, d1, d2, d3, d4⟩, -⟩ := hSw.out; dsimp only at g0 g1 g2 g3 g4 g5 g6 g7 d1 d2 d3; rw [HSN.out] at d3; go_simp; try with_reducible rfl
  try simp only [Act.put, List.getElem_toArray, List.getElem_cons_zero, List.getElem_cons_succ, List.setIfInBounds_toArray, List.set_cons_zero, List.set_cons_succ]
  refine wpAnyH_take (i := 6) (v := ?_) rfl (by kernel_rfl) (by kernel_rfl) (by kernel_rfl) (fun _ _ _ h => h) (Or.inl ⟨by rfl, ?_⟩) (by assumption) ?_
  rotate_left 1
  · intro w _; go_simp; try with_reducible rfl
  try simp only [Act.put, List.getElem_toArray, List.getElem_cons_zero, List.getElem_cons_succ, List.setIfInBounds_toArray, List.set_cons_zero, List.set_cons_succ]
  refine wpAnyH_take (i := 7) (v := ?_) rfl (by kernel_rfl) (by kernel_rfl) (by kernel_rfl) (fun _ _ _ h => h) (Or.inl ⟨by rfl, ?_⟩) (by assumption) ?_
  rotate_left 1
  · intro w _; go_simp; try with_reducible rfl
  try simp only [Act.put, List.getElem_toArray, List.getElem_cons_zero, List.getElem_cons_succ, List.setIfInBounds_toArray, List.set_cons_zero, List.set_cons_succ]
  refine wpAnyH_take (i := 8) (v := ?_) rfl (by kernel_rfl) (by kernel_rfl) (by kernel_rfl) (fun _ _ _ h => h) (Or.inl ⟨by rfl, ?_⟩) (by assumption) ?_
  rotate_left 1
  · intro w _; go_simp; try with_reducible rfl
  try simp only [Act.put, List.getElem_toArray, List.getElem_cons_zero, List.getElem_cons_succ, List.setIfInBounds_toArray, List.set_cons_zero, List.set_cons_succ]
  refine wpAnyH_take (i := 9) (v := ?_) rfl (by kernel_rfl) (by kernel_rfl) (by kernel_rfl) (fun _ _ _ h => h) (Or.inl ⟨by rfl, ?_⟩) (by assumption) ?_
  rotate_left 1
  · intro w _; go_simp; try with_reducible rfl
  try simp only [Act.put, List.getElem_toArray, List.getElem_cons_zero, List.getElem_cons_succ, List.setIfInBounds_toArray, List.set_cons_zero, List.set_cons_succ]
  refine wpAnyH_take (i := 10) (v := ?_) rfl (by kernel_rfl) (by kernel_rfl) (by kernel_rfl) (fun _ _ _ h => h) (Or.inl ⟨by rfl, ?_⟩) (by assumption) ?_
  rotate_left 1
  · intro w _; go_simp; try with_reducible rfl
  try simp only [Act.put, List.getElem_toArray, List.getElem_cons_zero, List.getElem_cons_succ, List.setIfInBounds_toArray, List.set_cons_zero, List.set_cons_succ]
  refine wpAnyH_take (i := 11) (v := ?_) rfl (by kernel_rfl) (by kernel_rfl) (by kernel_rfl) (fun _ _ _ h => h) (Or.inl ⟨by rfl, ?_⟩) (by assumption) ?_
  rotate_left 1
  · intro w _; go_simp; try with_reducible rfl
  try simp only [Act.put, List.getElem_toArray, List.getElem_cons_zero, List.getElem_cons_succ, List.setIfInBounds_toArray, List.set_cons_zero, List.set_cons_succ]
  refine wpAnyH_take (i := 12) (v := ?_) rfl (by kernel_rfl) (by kernel_rfl) (by kernel_rfl) (fun _ _ _ h => h) (Or.inl ⟨by rfl, ?_⟩) (by assumption) ?_
  rotate_left 1
  · intro w _; go_simp; try with_reducible rfl
  try simp only [Act.put, List.getElem_toArray, List.getElem_cons_zero, List.getElem_cons_succ, List.setIfInBounds_toArray, List.set_cons_zero, List.set_cons_succ]
  refine wpAnyH_take (i := 13) (v := ?_) rfl (by kernel_rfl) (by kernel_rfl) (by kernel_rfl) (fun _ _ _ h => h) (Or.inl ⟨by rfl, ?_⟩) (by assumption) ?_
  rotate_left 1
  · intro w hSw; (try dsimp only at hSw); obtain ⟨-, ⟨g0, g1, g2, g3, g4, g5, g6, g7⟩, ⟨d0, d1, d2, d3, d4⟩, -⟩ := hSw.out; dsimp only at g0 g1 g2 g3 g4 g5 g6 g7 d1 d2 d3; rw [HSN.out] at d3; go_simp; try with_reducible rfl
  try simp only [Act.put, List.getElem_toArray, List.getElem_cons_zero, List.getElem_cons_succ, List.setIfInBounds_toArray, List.set_cons_zero, List.set_cons_succ]
  refine wpAnyH_take (i := 14) (v := ?_) rfl (by kernel_rfl) (by kernel_rfl) (by kernel_rfl) (fun _ _ _ h => h) (Or.inl ⟨by rfl, ?_⟩) (by assumption) ?_
  rotate_left 1
  · intro w _; go_simp; try with_reducible rfl
  try simp only [Act.put, List.getElem_toArray, List.getElem_cons_zero, List.getElem_cons_succ, List.setIfInBounds_toArray, List.set_cons_zero, List.set_cons_succ]
  refine wpAnyH_take (i := 15) (v := ?_) rfl (by kernel_rfl) (by kernel_rfl) (by kernel_rfl) (fun _ _ _ h => h) (Or.inl ⟨by rfl, ?_⟩) (by assumption) ?_
  rotate_left 1
  · intro w _; go_simp; try with_reducible rfl
  try simp only [Act.put, List.getElem_toArray, List.getElem_cons_zero, List.getElem_cons_succ, List.setIfInBounds_toArray, List.set_cons_zero, List.set_cons_succ]
  refine wpAnyH_take (i := 16) (v := ?_) rfl (by kernel_rfl) (by kernel_rfl) (by kernel_rfl) (fun _ _ _ h => h) (Or.inl ⟨by rfl, ?_⟩) (by assumption) ?_
  rotate_left 1
  · intro w _; go_simp; try with_reducible rfl
  try simp only [Act.put, List.getElem_toArray, List.getElem_cons_zero, List.getElem_cons_succ, List.setIfInBounds_toArray, List.set_cons_zero, List.set_cons_succ]
  refine wpAnyH_take (i := 17) (v := ?_) rfl (by kernel_rfl) (by kernel_rfl) (by kernel_rfl) (fun _ _ _ h => h) (Or.inl ⟨by rfl, ?_⟩) (by assumption) ?_
  rotate_left 1
  · intro w hSw; (try dsimp only at hSw); obtain ⟨-, ⟨g0, g1, g2, g3, g4, g5, g6, g7⟩, ⟨d0, d1, d2, d3, d4⟩, -⟩ := hSw.out; dsimp only at g0 g1 g2 g3 g4 g5 g6 g7 d1 d2 d3; rw [HSN.out] at d3; go_simp; try with_reducible rfl
  try simp only [Act.put, List.getElem_toArray, List.getElem_cons_zero, List.getElem_cons_succ, List.setIfInBounds_toArray, List.set_cons_zero, List.set_cons_succ]
  refine wpAnyH_take (i := 18) (v := ?_) rfl (by kernel_rfl) (by kernel_rfl) (by kernel_rfl) (fun _ _ _ h => h) (Or.inl ⟨by rfl, ?_⟩) (by assumption) ?_
  rotate_left 1
  · intro w _; go_simp; try with_reducible rfl
  try simp only [Act.put, List.getElem_toArray, List.getElem_cons_zero, List.getElem_cons_succ, List.setIfInBounds_toArray, List.set_cons_zero, List.set_cons_succ]
  refine wpAnyH_take (i := 19) (v := ?_) rfl (by kernel_rfl) (by kernel_rfl) (by kernel_rfl) (fun _ _ _ h => h) (Or.inl ⟨by rfl, ?_⟩) (by assumption) ?_
  rotate_left 1
  · intro w _; go_simp; try with_reducible rfl
  try simp only [Act.put, List.getElem_toArray, List.getElem_cons_zero, List.getElem_cons_succ, List.setIfInBounds_toArray, List.set_cons_zero, List.set_cons_succ]
  refine wpAnyH_take (i := 20) (v := ?_) rfl (by kernel_rfl) (by kernel_rfl) (by kernel_rfl) (fun _ _ _ h => h) (Or.inl ⟨by rfl, ?_⟩) (by assumption) ?_
  rotate_left 1
  · intro w _; go_simp; try with_reducible rfl
  try simp only [Act.put, List.getElem_toArray, List.getElem_cons_zero, List.getElem_cons_succ, List.setIfInBounds_toArray, List.set_cons_zero, List.set_cons_succ]
  refine wpAnyH_take (i := 21) (v := ?_) rfl (by kernel_rfl) (by kernel_rfl) (by kernel_rfl) (fun _ _ _ h => h) (Or.inl ⟨by rfl, ?_⟩) (by assumption) ?_
  rotate_left 1
  · intro w _; go_simp; try with_reducible rfl
  try simp only [Act.put, List.getElem_toArray, List.getElem_cons_zero, List.getElem_cons_succ, List.setIfInBounds_toArray, List.set_cons_zero, List.set_cons_succ]
  refine wpAnyH_take (i := 22) (v := ?_) rfl (by kernel_rfl) (by kernel_rfl) (by kernel_rfl) (fun _ _ _ h => h) (Or.inl ⟨by rfl, ?_⟩) (by assumption) ?_
  rotate_left 1
  · intro w hSw; (try dsimp only at hSw); obtain ⟨-, ⟨g0, g1, g2, g3, g4, g5, g6, g7⟩, ⟨d0, d1, d2, d3, d4⟩, -⟩ := hSw.out; dsimp only at g0 g1 g2 g3 g4 g5 g6 g7 d1 d2 d3; rw [HSN.out] at d3; go_simp; try with_reducible rfl
  try simp only [Act.put, List.getElem_toArray, List.getElem_cons_zero, List.getElem_cons_succ, List.setIfInBounds_toArray, List.set_cons_zero, List.set_cons_succ]
  refine wpAnyH_take (i := 23) (v := ?_) rfl (by kernel_rfl) (by kernel_rfl) (by kernel_rfl) (fun _ _ _ h => h) (Or.inl ⟨by rfl, ?_⟩) (by assumption) ?_
  rotate_left 1
  · intro w _; go_simp; try with_reducible rfl
  try simp only [Act.put, List.getElem_toArray, List.getElem_cons_zero, List.getElem_cons_succ, List.setIfInBounds_toArray, List.set_cons_zero, List.set_cons_succ]
  refine wpAnyH_take (i := 24) (v := ?_) rfl (by kernel_rfl) (by kernel_rfl) (by kernel_rfl) (fun _ _ _ h => h) (Or.inl ⟨by rfl, ?_⟩) (by assumption) ?_
  rotate_left 1
  · intro w hSw; (try dsimp only at hSw); obtain ⟨-, ⟨g0, g1, g2, g3, g4, g5, g6, g7⟩, ⟨d0, d1, d2, d3, d4⟩, -⟩ := hSw.out; dsimp only at g0 g1 g2 g3 g4 g5 g6 g7 d1 d2 d3; rw [HSN.out] at d3; go_simp; try with_reducible rfl
  try simp only [Act.put, List.getElem_toArray, List.getElem_cons_zero, List.getElem_cons_succ, List.setIfInBounds_toArray, List.set_cons_zero, List.set_cons_succ]
  refine wpAnyH_take (i := 25) (v := ?_) rfl (by kernel_rfl) (by kernel_rfl) (by kernel_rfl) (fun _ _ _ h => h) (Or.inl ⟨by rfl, ?_⟩) (by assumption) ?_
  rotate_left 1
  · intro w _; go_simp; try with_reducible rfl
  try simp only [Act.put, List.getElem_toArray, List.getElem_cons_zero, List.getElem_cons_succ, List.setIfInBounds_toArray, List.set_cons_zero, List.set_cons_succ]
  refine wpAnyH_take (i := 26) (v := ?_) rfl (by kernel_rfl) (by kernel_rfl) (by kernel_rfl) (fun _ _ _ h => h) (Or.inl ⟨by rfl, ?_⟩) (by assumption) ?_
  rotate_left 1
  · intro w _; go_simp; try with_reducible rfl
  try simp only [Act.put, List.getElem_toArray, List.getElem_cons_zero, List.getElem_cons_succ, List.setIfInBounds_toArray, List.set_cons_zero, List.set_cons_succ]
  refine wpAnyH_take (i := 27) (v := ?_) rfl (by kernel_rfl) (by kernel_rfl) (by kernel_rfl) (fun _ _ _ h => h) (Or.inl ⟨by rfl, ?_⟩) (by assumption) ?_
  rotate_left 1
  · intro w hSw; (try dsimp only at hSw); obtain ⟨-, ⟨g0, g1, g2, g3, g4, g5, g6, g7⟩, ⟨d0, d1, d2, d3, d4⟩, -⟩ := hSw.out; dsimp only at g0 g1 g2 g3 g4 g5 g6 g7 d1 d2 d3; rw [HSN.out] at d3; go_simp; try with_reducible rfl
  try simp only [Act.put, List.getElem_toArray, List.getElem_cons_zero, List.getElem_cons_succ, List.setIfInBounds_toArray, List.set_cons_zero, List.set_cons_succ]
  refine wpAnyH_ready (rs := [28]) (by kernel_rfl) (by simp) ?_
  refine AllReadyH.cons rfl (fun K hK => ?_) AllReadyH.nil
  go_simp
  have HND := named10_v ⟨G, gc, P, pc, (some ad8), cc, Z⟩ d ⟨XA, xc, XB, xd, (some al), mm, xe⟩ h L _ hHeld.out.2.2.2.1 hHeld.out.2.2.2.2.2.2.1 hHeld.out.2.2.2.2.2.1 HLm.out hb1 hb2 HNN.out
  rw [dv, HSN.out] at HND
  refine HND.mono ?_
  clear HND
  rintro r w6 ⟨rfl, hb⟩
  rw [HTH.out]
  go_wp2_with fail
  refine hK.out _ _ (Hsx.call hb hHeld) (fun hHeld => ?_)
  clear hK K
  try simp only [Act.put, List.getElem_toArray, List.getElem_cons_zero, List.getElem_cons_succ, List.setIfInBounds_toArray, List.set_cons_zero, List.set_cons_succ]
  refine wpAnyH_take (i := 29) (v := ?_) rfl (by kernel_rfl) (by kernel_rfl) (by kernel_rfl) (fun _ _ _ h => h) (Or.inl ⟨by rfl, ?_⟩) (by assumption) ?_
  rotate_left 1
  · intro w _; go_simp; try with_reducible rfl
  try simp only [Act.put, List.getElem_toArray, List.getElem_cons_zero, List.getElem_cons_succ, List.setIfInBounds_toArray, List.set_cons_zero, List.set_cons_succ]
  refine wpAnyH_take (i := 30) (v := ?_) rfl (by kernel_rfl) (by kernel_rfl) (by kernel_rfl) (fun _ _ _ h => h) (Or.inl ⟨by rfl, ?_⟩) (by assumption) ?_
  rotate_left 1
  · intro w _; go_simp; try with_reducible rfl
  try simp only [Act.put, List.getElem_toArray, List.getElem_cons_zero, List.getElem_cons_succ, List.setIfInBounds_toArray, List.set_cons_zero, List.set_cons_succ]
  refine wpAnyH_done (by kernel_rfl) ?_ _
  have S9a := Lib.hid hHeld.out
  clear hHeld
  have hnsz : n < sn := hns2
  obtain ⟨-, ⟨g0, g1, g2, g3, g4, g5, g6, g7⟩, ⟨d0, d1, d2, d3, d4⟩, -⟩ := S9a.out
  dsimp only at g0 g1 g2 g3 g4 g5 g6 g7 d1 d2 d3
  rw [HSN.out] at d3
  go_upto_region 11 with (fail)
  have S9 := Lib.hid (S9a.out.mkM ⟨XA, xc, XB, xd, (some al), mm, xe⟩ h)
  obtain ⟨D, hD⟩ : ∃ D, w6.heap.size = D := ⟨_, rfl⟩
  rw [hD] at S9 ⊢
  have S9 : Hid (Sx w (w6.alloc (hcel ⟨XA, xc, XB, xd, (some al), mm, xe⟩ h)) [fM D ⟨XA, xc, XB, xd, (some al), mm, xe⟩ h, fA8 (ad8.add (n * 8)) ⟨⟨XA, xc, XB, xd, (some al), mm, xe⟩, h, L⟩, fD B ⟨G, gc, P, pc, (some ad8), cc, Z⟩ d, fQm ⟨G, gc, P, pc, (some ad8), cc, Z⟩ d, fRw (some adr) c R, fT (some al) xe L, fH ⟨XA, xc, XB, xd, (some al), mm, xe⟩ h]) := Lib.hid S9.out
  change Code.wp _ _ _ _ (w6.alloc (hcel ⟨XA, xc, XB, xd, (some al), mm, xe⟩ h))
  generalize w6.alloc (hcel ⟨XA, xc, XB, xd, (some al), mm, xe⟩ h) = w7 at S9 ⊢
  clear g0 g1 g2 g3 g4 g5 g6 g7 d0 d1 d2 d3 d4 hD S9a q1 q2 q3 q4
  go_wp2_with fail
  go_loopw [10, 11, 12, 13] (fun tv pv av sv wq => ∃ (s p q : Nat) (ST : List Int) (A3 : Option Addr) (c3 : Nat), s ≤ 400 ∧ p < mm ∧ q ≤ s ∧ sv = .int .i64 s ∧ pv = .int .i64 p ∧ av = .int .i64 q ∧ tv = .slice A3 ST.length c3 ∧ Hid (Rd wq A3 c3 ST) ∧ Hid ((R.map rz)[p]?.getD z10 = (true, ST)) ∧ Hid (Sx w wq [fM D ⟨XA, xc, XB, xd, (some al), mm, xe⟩ h, fA8 (ad8.add (n * 8)) ⟨⟨XA, xc, XB, xd, (some al), mm, xe⟩, h, L⟩, fD B ⟨G, gc, P, pc, (some ad8), cc, Z⟩ d, fQm ⟨G, gc, P, pc, (some ad8), cc, Z⟩ d, fRw (some adr) c R, fT (some al) xe L, fH ⟨XA, xc, XB, xd, (some al), mm, xe⟩ h])) (fun _ _ _ sv _ => 400 - (intOf sv).toNat)
  case atStart => exact ⟨0, 0, 0, [], none, 0, by omega, by omega, by omega, rfl, rfl, rfl, rfl, Lib.hid (Rd.none_ _), Lib.hid HI.out.first, S9⟩
  case round =>
    clear S9
    obtain ⟨s, p, q, ST, A3, c3, hs, hp, hqs, rfl, rfl, rfl, rfl, HR3, HST, SQ⟩ := hrel
    rename World => wr
    by_cases h4 : s < 400
    · obtain ⟨⟨r0, C0, b0, K0⟩, hz0⟩ : ∃ z, R[p]? = some z := ⟨_, List.getElem?_eq_getElem (by rw [HRL.out]; exact hp)⟩
      have hk0 := HST.out
      rw [map_rz10 hz0] at hk0
      injection hk0 with e1 e2
      dsimp only at e1 e2
      subst e1 e2
      obtain ⟨adr2, hA2, ⟨y0, y1⟩, hK0⟩ := SQ.out.2.2.2.2.2.1.at_ hz0
      injection hA2 with hA2
      subst hA2
      dsimp only at y0 y1 hK0
      have hst3 : K0.length ≤ 300000 := by
        have h := in10s_len HI.out p
        rw [HST.out] at h
        dsimp only at h
        omega
      have HSK := Lib.hid (r7same_v C0 A3 b0 c3 K0.length K0.length K0 K0 true wr hK0 HR3.out rfl rfl (by simp))
      have hle : K0.length ≤ hg10 (R.map rz) := hg10_mem (z := (true, K0)) (List.mem_map.2 ⟨_, List.mem_of_getElem? hz0, rfl⟩)
      have HLE := Lib.hid hle
      clear hz0 hK0 hle
      go_wp2_with fail
      refine HSK.out.mono ?_
      rintro r w8 ⟨rfl, hb⟩
      have SQ2 := Lib.hid (SQ.out.call hb)
      have HR4 := Lib.hid (HR3.out.keep hb)
      clear hb HSK HR3 SQ y0 y1
      have HHT := Lib.hid (ktheight F0 (some adr) c mm R w8 trivial SQ2.out.2.2.2.2.2.1 HRL.out (by omega) (fun z hz => by
        obtain ⟨i, hi⟩ := List.getElem?_of_mem hz
        have h := in10s_len HI.out i
        rw [map_rz10 hi] at h
        have h2 := (List.getElem?_eq_some_iff.1 hi).1
        rw [HRL.out] at h2
        dsimp only at h
        omega))
      obtain ⟨hgt, hhgt⟩ : ∃ g, hg10 (R.map rz) = g := ⟨_, rfl⟩
      rw [hhgt] at HHT HLE
      have hle2 : K0.length ≤ hgt := HLE.out
      clear hhgt
      go_wp2_with fail
      refine HHT.out.mono ?_
      rintro r w9 ⟨rfl, hb⟩
      have SQ3 := Lib.hid (SQ2.out.call hb)
      have HR5b := Lib.hid (HR4.out.keep hb)
      clear hb HHT HR4 SQ2
      obtain ⟨⟨o, a, z⟩, hx⟩ : ∃ x, L[p]? = some x := ⟨_, List.getElem?_eq_getElem (by rw [HLm.out]; exact hp)⟩
      have ha0 := HNN.out _ (List.mem_of_getElem? hx)
      dsimp only at ha0
      obtain ⟨b, rfl⟩ : ∃ b : Nat, a = b := ⟨a.toNat, by omega⟩
      have HIX : Hid (ix10 L p = (o, (b : Int), z)) := Lib.hid (by simp [ix10, hx])
      have HTO : Hid (th10 d h (o, (b : Int), z) = true) := Lib.hid (List.all_eq_true.1 HTH.out _ (List.mem_of_getElem? hx))
      obtain ⟨al2, hA, k1, k2, k3⟩ := SQ3.out.2.2.2.2.2.2.1.at9 hx
      injection hA with hA
      subst hA
      obtain ⟨nx, hnx, hwv⟩ := run10s HI.out HFL.out (p := p) (by rw [HLm.out]; exact hp) (by rw [HST.out])
      rw [HIX.out, HST.out] at hnx
      have HNX := Lib.hid hnx
      have HWV := Lib.hid hwv
      have S20 : Hid (Sx w w9 [fA3w (al.add (p * 3)) o b z, fM D ⟨XA, xc, XB, xd, (some al), mm, xe⟩ h, fR A3 c3 K0, fA8 (ad8.add (n * 8)) ⟨⟨XA, xc, XB, xd, (some al), mm, xe⟩, h, L⟩, fD B ⟨G, gc, P, pc, (some ad8), cc, Z⟩ d, fQm ⟨G, gc, P, pc, (some ad8), cc, Z⟩ d, fRw (some adr) c R, fT (some al) xe L, fH ⟨XA, xc, XB, xd, (some al), mm, xe⟩ h]) := Lib.hid ⟨SQ3.out.1, ⟨k1, k2, k3⟩, SQ3.out.2.1, HR5b.out, SQ3.out.2.2⟩
      clear hx ha0 k1 k2 k3 hnx hwv SQ3
      go_upto_region 20 with (fail)
      refine wp_region_held_drew (S := fun w' => Hid (Sx w w' [fA3w (al.add (p * 3)) o b z, fM D ⟨XA, xc, XB, xd, (some al), mm, xe⟩ h, fR A3 c3 K0, fA8 (ad8.add (n * 8)) ⟨⟨XA, xc, XB, xd, (some al), mm, xe⟩, h, L⟩, fD B ⟨G, gc, P, pc, (some ad8), cc, Z⟩ d, fQm ⟨G, gc, P, pc, (some ad8), cc, Z⟩ d, fRw (some adr) c R, fT (some al) xe L, fH ⟨XA, xc, XB, xd, (some al), mm, xe⟩ h])) (by kernel_rfl) (Hsx.drew S20) (fun hHeld => ?_)
      refine wpAnyH_take (i := 0) (v := ?_) rfl (by kernel_rfl) (by kernel_rfl) (by kernel_rfl) (fun _ _ _ h => h) (Or.inl ⟨by rfl, ?_⟩) (by assumption) ?_
      rotate_left 1
      · intro w hSw; (try dsimp only at hSw); obtain ⟨-, ⟨k1, k2, k3⟩, ⟨m0, m1, m2, m3, m4, m5, m6, m7, m8⟩, -, -, ⟨d0, d1, d2, d3, d4⟩, -⟩ := hSw.out; dsimp only at m1 m2 m8 d1 d2 d3; go_simp; try with_reducible rfl
      try simp only [Act.put, List.getElem_toArray, List.getElem_cons_zero, List.getElem_cons_succ, List.setIfInBounds_toArray, List.set_cons_zero, List.set_cons_succ]
      refine wpAnyH_take (i := 1) (v := ?_) rfl (by kernel_rfl) (by kernel_rfl) (by kernel_rfl) (fun _ _ _ h => h) (Or.inl ⟨by rfl, ?_⟩) (by assumption) ?_
      rotate_left 1
      · intro w hSw; (try dsimp only at hSw); obtain ⟨-, ⟨k1, k2, k3⟩, ⟨m0, m1, m2, m3, m4, m5, m6, m7, m8⟩, -, -, ⟨d0, d1, d2, d3, d4⟩, -⟩ := hSw.out; dsimp only at m1 m2 m8 d1 d2 d3; go_simp; try with_reducible rfl
      try simp only [Act.put, List.getElem_toArray, List.getElem_cons_zero, List.getElem_cons_succ, List.setIfInBounds_toArray, List.set_cons_zero, List.set_cons_succ]
      refine wpAnyH_take (i := 2) (v := ?_) rfl (by kernel_rfl) (by kernel_rfl) (by kernel_rfl) (fun _ _ _ h => h) (Or.inl ⟨by rfl, ?_⟩) (by assumption) ?_
      rotate_left 1
      · intro w _; go_simp; try with_reducible rfl
      try simp only [Act.put, List.getElem_toArray, List.getElem_cons_zero, List.getElem_cons_succ, List.setIfInBounds_toArray, List.set_cons_zero, List.set_cons_succ]
      refine wpAnyH_take (i := 3) (v := ?_) rfl (by kernel_rfl) (by kernel_rfl) (by kernel_rfl) (fun _ _ _ h => h) (Or.inl ⟨by rfl, ?_⟩) (by assumption) ?_
      rotate_left 1
      · intro w hSw; (try dsimp only at hSw); obtain ⟨-, ⟨k1, k2, k3⟩, ⟨m0, m1, m2, m3, m4, m5, m6, m7, m8⟩, -, -, ⟨d0, d1, d2, d3, d4⟩, -⟩ := hSw.out; dsimp only at m1 m2 m8 d1 d2 d3; go_simp; try with_reducible rfl
      try simp only [Act.put, List.getElem_toArray, List.getElem_cons_zero, List.getElem_cons_succ, List.setIfInBounds_toArray, List.set_cons_zero, List.set_cons_succ]
      refine wpAnyH_take (i := 4) (v := ?_) rfl (by kernel_rfl) (by kernel_rfl) (by kernel_rfl) (fun _ _ _ h => h) (Or.inl ⟨by rfl, ?_⟩) (by assumption) ?_
      rotate_left 1
      · intro w _; go_simp; try with_reducible rfl
      try simp only [Act.put, List.getElem_toArray, List.getElem_cons_zero, List.getElem_cons_succ, List.setIfInBounds_toArray, List.set_cons_zero, List.set_cons_succ]
      refine wpAnyH_take (i := 5) (v := ?_) rfl (by kernel_rfl) (by kernel_rfl) (by kernel_rfl) (fun _ _ _ h => h) (Or.inl ⟨by rfl, ?_⟩) (by assumption) ?_
      rotate_left 1
      · intro w _; go_simp; try with_reducible rfl
      try simp only [Act.put, List.getElem_toArray, List.getElem_cons_zero, List.getElem_cons_succ, List.setIfInBounds_toArray, List.set_cons_zero, List.set_cons_succ]
      refine wpAnyH_take (i := 6) (v := ?_) rfl (by kernel_rfl) (by kernel_rfl) (by kernel_rfl) (fun _ _ _ h => h) (Or.inl ⟨by rfl, ?_⟩) (by assumption) ?_
      rotate_left 1
      · intro w hSw; (try dsimp only at hSw); obtain ⟨-, ⟨k1, k2, k3⟩, ⟨m0, m1, m2, m3, m4, m5, m6, m7, m8⟩, -, -, ⟨d0, d1, d2, d3, d4⟩, -⟩ := hSw.out; dsimp only at m1 m2 m8 d1 d2 d3; go_simp; try with_reducible rfl
      try simp only [Act.put, List.getElem_toArray, List.getElem_cons_zero, List.getElem_cons_succ, List.setIfInBounds_toArray, List.set_cons_zero, List.set_cons_succ]
      refine wpAnyH_take (i := 7) (v := ?_) rfl (by kernel_rfl) (by kernel_rfl) (by kernel_rfl) (fun _ _ _ h => h) (Or.inl ⟨by rfl, ?_⟩) (by assumption) ?_
      rotate_left 1
      · intro w _; go_simp; try with_reducible rfl
      try simp only [Act.put, List.getElem_toArray, List.getElem_cons_zero, List.getElem_cons_succ, List.setIfInBounds_toArray, List.set_cons_zero, List.set_cons_succ]
      refine wpAnyH_ready (rs := [8]) (by kernel_rfl) (by simp) ?_
      refine AllReadyH.cons rfl (fun K hK => ?_) AllReadyH.nil
      go_simp
      refine (step10_v ⟨G, gc, P, pc, (some ad8), cc, Z⟩ d ⟨XA, xc, XB, xd, (some al), mm, xe⟩ h o b z A3 c3 K0.length K0 _ hHeld.out.2.2.2.2.2.2.1 hHeld.out.2.2.2.2.2.2.2.2.2.1 hHeld.out.2.2.2.1 rfl hst3 hb1 hb2 HTO.out).mono ?_
      rw [HNX.out]
      rintro r w6 ⟨A5, c5, rfl, hr5, hb⟩
      have HR5 := Lib.hid hr5
      clear hr5
      go_wp2_with fail
      refine hK.out _ _ (Hsx.call hb hHeld) (fun hHeld => ?_)
      clear hK K
      try simp only [Act.put, List.getElem_toArray, List.getElem_cons_zero, List.getElem_cons_succ, List.setIfInBounds_toArray, List.set_cons_zero, List.set_cons_succ]
      refine wpAnyH_take (i := 9) (v := ?_) rfl (by kernel_rfl) (by kernel_rfl) (by kernel_rfl) (fun _ _ _ h => h) (Or.inl ⟨by rfl, ?_⟩) (by assumption) ?_
      rotate_left 1
      · intro w _; go_simp; try with_reducible rfl
      try simp only [Act.put, List.getElem_toArray, List.getElem_cons_zero, List.getElem_cons_succ, List.setIfInBounds_toArray, List.set_cons_zero, List.set_cons_succ]
      refine wpAnyH_take (i := 10) (v := ?_) rfl (by kernel_rfl) (by kernel_rfl) (by kernel_rfl) (fun _ _ _ h => h) (Or.inl ⟨by rfl, ?_⟩) (by assumption) ?_
      rotate_left 1
      · intro w _; go_simp; try with_reducible rfl
      try simp only [Act.put, List.getElem_toArray, List.getElem_cons_zero, List.getElem_cons_succ, List.setIfInBounds_toArray, List.set_cons_zero, List.set_cons_succ]
      refine wpAnyH_take (i := 11) (v := ?_) rfl (by kernel_rfl) (by kernel_rfl) (by kernel_rfl) (fun _ _ _ h => h) (Or.inl ⟨by rfl, ?_⟩) (by assumption) ?_
      rotate_left 1
      · intro w _; go_simp; try with_reducible rfl
      try simp only [Act.put, List.getElem_toArray, List.getElem_cons_zero, List.getElem_cons_succ, List.setIfInBounds_toArray, List.set_cons_zero, List.set_cons_succ]
      refine wpAnyH_take (i := 12) (v := ?_) rfl (by kernel_rfl) (by kernel_rfl) (by kernel_rfl) (fun _ _ _ h => h) (Or.inl ⟨by rfl, ?_⟩) (by assumption) ?_
      rotate_left 1
      · intro w _; go_simp; try with_reducible rfl
      try simp only [Act.put, List.getElem_toArray, List.getElem_cons_zero, List.getElem_cons_succ, List.setIfInBounds_toArray, List.set_cons_zero, List.set_cons_succ]
      refine wpAnyH_take (i := 13) (v := ?_) rfl (by kernel_rfl) (by kernel_rfl) (by kernel_rfl) (fun _ _ _ h => h) (Or.inl ⟨by rfl, ?_⟩) (by assumption) ?_
      rotate_left 1
      · intro w _; go_simp; try with_reducible rfl
      try simp only [Act.put, List.getElem_toArray, List.getElem_cons_zero, List.getElem_cons_succ, List.setIfInBounds_toArray, List.set_cons_zero, List.set_cons_succ]
      refine wpAnyH_done (by kernel_rfl) ?_ _
      have SU : Hid (Sx w w6 [fM D ⟨XA, xc, XB, xd, (some al), mm, xe⟩ h, fA8 (ad8.add (n * 8)) ⟨⟨XA, xc, XB, xd, (some al), mm, xe⟩, h, L⟩, fD B ⟨G, gc, P, pc, (some ad8), cc, Z⟩ d, fQm ⟨G, gc, P, pc, (some ad8), cc, Z⟩ d, fRw (some adr) c R, fT (some al) xe L, fH ⟨XA, xc, XB, xd, (some al), mm, xe⟩ h]) := Lib.hid ⟨hHeld.out.1, hHeld.out.2.2.1, hHeld.out.2.2.2.2⟩
      clear hHeld
      have HR6 : Hid (Rd w6 A5 c5 nx) := Lib.hid HR5.out
      clear HR5
      have HWY := Lib.hid (fways_v (some al) xe mm L p w6 SU.out.2.2.2.2.2.2.1 HLm.out (by omega))
      have HF9 : Hid (flW9 L (p : Int) = (wy9 L p, 0)) := Lib.hid (by rw [flW9, if_pos HFL.out, if_neg (by rw [HLm.out]; omega), Int.toNat_natCast])
      rw [HF9.out] at HWY
      have HAH := Lib.hid (ahead9 HFL.out (p := p) (by rw [HLm.out]; exact hp)).1
      obtain ⟨W, hW⟩ : ∃ W, wy9 L p = W := ⟨_, rfl⟩
      rw [hW] at HWY HAH
      rw [Hid, hW] at HWV
      have HWV := Lib.hid HWV
      dsimp only at HWY
      obtain ⟨kw, hkw⟩ : ∃ kw, W.length = kw := ⟨_, rfl⟩
      rw [hkw] at HWY
      have hkw2 : kw ≤ 2 := by rw [← hkw]; exact HAH.out
      have HKW := Lib.hid hkw
      obtain ⟨-, ⟨m0, m1, m2, m3, m4, m5, m6, m7, m8⟩, -⟩ := SU.out
      dsimp only at m1 m2 m8
      have elen : ∀ (x : Option (List Int)), x = some nx → ((x.getD []).length = nx.length) := fun x h => by rw [h]; rfl
      clear hW hkw elen HAH
      go_wp2_with fail
      refine HWY.out.mono ?_
      rintro r w10 ⟨AW, cW, rfl, ho, hb⟩
      have HRN7 : Hid (Rn w10 AW cW W) := Lib.hid (Rn.of_own ho).1
      have S8b := Lib.hid (SU.out.call hb)
      have HR7 := Lib.hid (HR6.out.keep hb)
      have HRB := Lib.hid (HRB0.out.keep S8b.out.1)
      clear ho hb HWY SU HR6 m0 m1 m2 m3 m4 m5 m6 m7 m8
      by_cases k0 : kw = 0
      · subst k0
        go_wp2_with fail
        go_ret
        exact ⟨rfl, S8b.out.1⟩
      have hk1 : 1 ≤ kw := by omega
      obtain ⟨x0, e0⟩ : ∃ x, W[0]? = some x := ⟨_, List.getElem?_eq_getElem (by rw [HKW.out]; omega)⟩
      obtain ⟨aw, hAW, -⟩ := HRN7.out.at_ e0
      subst hAW
      by_cases k1 : kw = 1
      · subst k1
        obtain ⟨t, rfl, htm, HY0⟩ := HWV.out _ (List.mem_of_getElem? e0)
        rw [HLm.out] at htm
        obtain ⟨aw2, hAW2, yw0⟩ := HRN7.out.at_ e0
        injection hAW2 with hAW2
        subst hAW2
        simp [go_sem] at yw0
        have HY2 : Hid ((R.map rz)[t]?.getD z10 = (true, nx)) := Lib.hid HY0
        clear e0 HY0
        go_wp2_with fail
        go_roundw
        case rel => exact ⟨s + 1, t, q, nx, A5, c5, by omega, by omega, by omega, by go_num, by go_num, rfl, rfl, HR7, HY2, S8b⟩
        case measure => simp [intOf]; omega
      have k2 : kw = 2 := by omega
      subst k2
      obtain ⟨x1, e1⟩ : ∃ x, W[1]? = some x := ⟨_, List.getElem?_eq_getElem (by rw [HKW.out]; omega)⟩
      by_cases hqm : q < m2
      · obtain ⟨aB, yB, hAB, yb⟩ := HRB.out.at_ (i := q) (by rw [HWB.out]; exact hqm)
        subst hAB
        cases yB with
        | true =>
          obtain ⟨t, rfl, htm, HY0⟩ := HWV.out _ (List.mem_of_getElem? e1)
          rw [HLm.out] at htm
          obtain ⟨aw2, hAW2, yw1⟩ := HRN7.out.at_ e1
          injection hAW2 with hAW2
          subst hAW2
          simp [go_sem] at yw1
          have HY2 : Hid ((R.map rz)[t]?.getD z10 = (true, nx)) := Lib.hid HY0
          clear e1 HY0
          go_wp2_with fail
          go_roundw
          case rel => exact ⟨s + 1, t, q + 1, nx, A5, c5, by omega, by omega, by omega, by go_num, by go_num, by go_num, rfl, HR7, HY2, S8b⟩
          case measure => simp [intOf]; omega
        | false =>
          obtain ⟨t, rfl, htm, HY0⟩ := HWV.out _ (List.mem_of_getElem? e0)
          rw [HLm.out] at htm
          obtain ⟨aw2, hAW2, yw0⟩ := HRN7.out.at_ e0
          injection hAW2 with hAW2
          subst hAW2
          simp [go_sem] at yw0
          have HY2 : Hid ((R.map rz)[t]?.getD z10 = (true, nx)) := Lib.hid HY0
          clear e0 HY0
          go_wp2_with fail
          go_roundw
          case rel => exact ⟨s + 1, t, q + 1, nx, A5, c5, by omega, by omega, by omega, by go_num, by go_num, by go_num, rfl, HR7, HY2, S8b⟩
          case measure => simp [intOf]; omega
      · skip
        obtain ⟨t, rfl, htm, HY0⟩ := HWV.out _ (List.mem_of_getElem? e0)
        rw [HLm.out] at htm
        obtain ⟨aw2, hAW2, yw0⟩ := HRN7.out.at_ e0
        injection hAW2 with hAW2
        subst hAW2
        simp [go_sem] at yw0
        have HY2 : Hid ((R.map rz)[t]?.getD z10 = (true, nx)) := Lib.hid HY0
        clear e0 HY0
        go_wp2_with fail
        go_roundw
        case rel => exact ⟨s + 1, t, q + 1, nx, A5, c5, by omega, by omega, by omega, by go_num, by go_num, by go_num, rfl, HR7, HY2, S8b⟩
        case measure => simp [intOf]; omega
    · go_wp2_with fail
      go_ret
      exact ⟨rfl, SQ.out.1⟩
end Go.Proofs.Ytplgmdbocmfbcaa
