/-
  Layer 10: the law's step.
-/
import Derived.Test.YtplgmdbocmfbcaaZn
namespace Go.Proofs.Ytplgmdbocmfbcaa
open Go.RowKit
set_option maxRecDepth 100000
set_option linter.unusedSimpArgs false
set_option linter.unusedVariables false

set_option maxHeartbeats 4000000 in
theorem step10_30 (y : Ma) (d : Md) (x : Mc) (m : Mh) (b : Nat) (z : Int) (A : Option Addr) (c n : Nat) (R : List Int) (w : World) (hq : Hq w y d) (hx : Hd w x m) (hr : Rd w A c R) (hn : R.length = n) (hnb : n ≤ 300000) (b1 : m.a.length ≤ 1000) (b2 : m.l.length ≤ 1000) (hth : b < d.s.length) :
    Calls Try.prog 13 #[dv y d, mv x m, .agg #[.int .u8 30, .int .i64 b, .int .i64 z], .slice A n c] w fun e w' => Dr10 w w' (st10 d m (30, (b : Int), z) R) e := by
  have HN := Lib.hid hn
  have HBY : Hid (Byt R) := Lib.hid hr.1
  have hn9 : n ≤ c := by have := hr.le; omega
  have hrb := hx.2.2.1
  obtain ⟨G, gc, P, pc, AA, cc, Z⟩ := y
  obtain ⟨B, hB⟩ : ∃ B, w.heap.size = B := ⟨_, rfl⟩
  have hs1 : (w.alloc (dcel ⟨G, gc, P, pc, AA, cc, Z⟩ d)).heap.size = B + 1 := by rw [size1, hB]
  have hs2 : ((w.alloc (dcel ⟨G, gc, P, pc, AA, cc, Z⟩ d)).alloc (mcel x m)).heap.size = B + 1 + 1 := by rw [size1, hs1]
  have S0 := Lib.hid (((((((Sx.start w).add (fR A c R) hr).add (fH x m) hx).add (fQm ⟨G, gc, P, pc, AA, cc, Z⟩ d) hq).mkD ⟨G, gc, P, pc, AA, cc, Z⟩ d).mkM x m).mkI 30 b z)
  rw [hs2, hs1, hB] at S0
  clear hq hx hr hn
  go_enter Try.func13, Try.ntmps13
  go_upto_region 1 with (fail)
  change Code.wp _ _ _ _ (((w.alloc (dcel ⟨G, gc, P, pc, AA, cc, Z⟩ d)).alloc (mcel x m)).alloc (ic10 30 b z))
  generalize ((w.alloc (dcel ⟨G, gc, P, pc, AA, cc, Z⟩ d)).alloc (mcel x m)).alloc (ic10 30 b z) = w3 at S0 ⊢
  clear hs1 hs2 hB
  have HKI := Lib.hid (r10kinds_v x m w3 S0.out.2.2.2.2.2.1 b1 b2)
  obtain ⟨-, -, ⟨m0, m1, m2, m3, m4, m5, m6, m7, m8⟩, -⟩ := S0.out
  go_wp2_with fail
  refine HKI.out.mono ?_
  rintro r w4 ⟨A1, c1, rfl, ho, hb⟩
  have S4 := Lib.hid (S0.out.call hb)
  have HK : Hid (Rd w4 A1 c1 (m.a ++ m.l)) := Lib.hid (own_rd ho (ki10_byt S4.out.2.2.2.2.2.1))
  clear HKI S0 ho hb m0 m1 m2 m3 m4 m5 m6 m7 m8
  obtain ⟨-, ⟨-, i0, i1, i2⟩, ⟨m0, m1, m2, m3, m4, m5, m6, m7, m8⟩, ⟨d0, d1, d2, d3, d4⟩, -⟩ := S4.out
  dsimp only at d1 d2 d3
  clear m0 m1 m2 m3 m4 m5 m6 m7 m8
  obtain ⟨ad, u, hA, hat, hok, hme, -, -⟩ := meth10 S4.out.2.2.2.2.1 hth
  obtain ⟨⟨mA, mc, mB, md, mD, mk, mE⟩, mm, kk⟩ := u
  dsimp only at hA hme
  subst hA
  obtain ⟨g0, -, g2, -⟩ := hat
  dsimp only at g0 g2
  have hmr := hok.1.2.2.1
  have hma := hok.1.1
  dsimp only at hmr hma
  obtain ⟨J, hK⟩ : ∃ J, mm.a = J := ⟨_, rfl⟩
  obtain ⟨r, hr9⟩ : ∃ r, mm.r = r := ⟨_, rfl⟩
  rw [hK] at g0 hma
  rw [hr9] at g2 hmr
  have HE : Hid (st10 d m (30, (b : Int), z) R = dp10 R J [r]) := Lib.hid (by simp [st10, ← hme, hK, hr9])
  have S6 : Hid (Sx w w4 [fR A c R, fC1 (ad.add (b * 8)) (.slice mA J.length mc), fC1 ⟨(ad.add (b * 8)).block, (ad.add (b * 8)).off + 2, none⟩ (.int .u8 r), fR mA mc J, fIc (B + 1 + 1) 30 b z, fD B ⟨G, gc, P, pc, (some ad), cc, Z⟩ d, fR A c R]) := Lib.hid ⟨S4.out.1, S4.out.2.2.2.2.2.2.1, g0, g2, hma, S4.out.2.1, S4.out.2.2.2.1, S4.out.2.2.2.2.2.2.1, trivial⟩
  clear hme hK hr9 hok hma
  go_upto_region 23 with (fail)
  clear g0 g2 i0 i1 i2 d0 d1 d2 d3 d4
  refine wp_region_held_drew (S := fun w' => Hid (Sx w w' [fR A c R, fC1 (ad.add (b * 8)) (.slice mA J.length mc), fC1 ⟨(ad.add (b * 8)).block, (ad.add (b * 8)).off + 2, none⟩ (.int .u8 r), fR mA mc J, fIc (B + 1 + 1) 30 b z, fD B ⟨G, gc, P, pc, (some ad), cc, Z⟩ d, fR A c R])) (by kernel_rfl) (Hsx.drew S6) (fun hHeld => ?_)
  refine wpAnyH_take (i := 0) (v := ?_) rfl (by kernel_rfl) (by kernel_rfl) (by kernel_rfl) (fun _ _ _ h => h) (Or.inl ⟨by rfl, ?_⟩) (by assumption) ?_
  rotate_left 1
  · intro w _; go_simp; try with_reducible rfl
  try simp only [Act.put, List.getElem_toArray, List.getElem_cons_zero, List.getElem_cons_succ, List.setIfInBounds_toArray, List.set_cons_zero, List.set_cons_succ]
  refine wpAnyH_take (i := 1) (v := ?_) rfl (by kernel_rfl) (by kernel_rfl) (by kernel_rfl) (fun _ _ _ h => h) (Or.inl ⟨by rfl, ?_⟩) (by assumption) ?_
  rotate_left 1
  · intro w _; go_simp; try with_reducible rfl
  try simp only [Act.put, List.getElem_toArray, List.getElem_cons_zero, List.getElem_cons_succ, List.setIfInBounds_toArray, List.set_cons_zero, List.set_cons_succ]
  refine wpAnyH_take (i := 2) (v := ?_) rfl (by kernel_rfl) (by kernel_rfl) (by kernel_rfl) (fun _ _ _ h => h) (Or.inl ⟨by rfl, ?_⟩) (by assumption) ?_
  rotate_left 1
  · intro w hSw; (try dsimp only at hSw); obtain ⟨-, -, g0, g2, -, ⟨-, i0, i1, i2⟩, ⟨d0, d1, d2, d3, d4⟩, -⟩ := hSw.out; dsimp only at g0 g2 d1 d2 d3; go_simp; try with_reducible rfl
  try simp only [Act.put, List.getElem_toArray, List.getElem_cons_zero, List.getElem_cons_succ, List.setIfInBounds_toArray, List.set_cons_zero, List.set_cons_succ]
  refine wpAnyH_take (i := 3) (v := ?_) rfl (by kernel_rfl) (by kernel_rfl) (by kernel_rfl) (fun _ _ _ h => h) (Or.inl ⟨by rfl, ?_⟩) (by assumption) ?_
  rotate_left 1
  · intro w _; go_simp; try with_reducible rfl
  try simp only [Act.put, List.getElem_toArray, List.getElem_cons_zero, List.getElem_cons_succ, List.setIfInBounds_toArray, List.set_cons_zero, List.set_cons_succ]
  refine wpAnyH_take (i := 4) (v := ?_) rfl (by kernel_rfl) (by kernel_rfl) (by kernel_rfl) (fun _ _ _ h => h) (Or.inl ⟨by rfl, ?_⟩) (by assumption) ?_
  rotate_left 1
  · intro w hSw; (try dsimp only at hSw); obtain ⟨-, -, g0, g2, -, ⟨-, i0, i1, i2⟩, ⟨d0, d1, d2, d3, d4⟩, -⟩ := hSw.out; dsimp only at g0 g2 d1 d2 d3; go_simp; try with_reducible rfl
  try simp only [Act.put, List.getElem_toArray, List.getElem_cons_zero, List.getElem_cons_succ, List.setIfInBounds_toArray, List.set_cons_zero, List.set_cons_succ]
  refine wpAnyH_take (i := 5) (v := ?_) rfl (by kernel_rfl) (by kernel_rfl) (by kernel_rfl) (fun _ _ _ h => h) (Or.inl ⟨by rfl, ?_⟩) (by assumption) ?_
  rotate_left 1
  · intro w _; go_simp; try with_reducible rfl
  try simp only [Act.put, List.getElem_toArray, List.getElem_cons_zero, List.getElem_cons_succ, List.setIfInBounds_toArray, List.set_cons_zero, List.set_cons_succ]
  refine wpAnyH_take (i := 6) (v := ?_) rfl (by kernel_rfl) (by kernel_rfl) (by kernel_rfl) (fun _ _ _ h => h) (Or.inl ⟨by rfl, ?_⟩) (by assumption) ?_
  rotate_left 1
  · intro w _; go_simp; try with_reducible rfl
  try simp only [Act.put, List.getElem_toArray, List.getElem_cons_zero, List.getElem_cons_succ, List.setIfInBounds_toArray, List.set_cons_zero, List.set_cons_succ]
  refine wpAnyH_take (i := 7) (v := ?_) rfl (by kernel_rfl) (by kernel_rfl) (by kernel_rfl) (fun _ _ _ h => h) (Or.inl ⟨by rfl, ?_⟩) (by assumption) ?_
  rotate_left 1
  · intro w hSw; (try dsimp only at hSw); obtain ⟨-, -, g0, g2, -, ⟨-, i0, i1, i2⟩, ⟨d0, d1, d2, d3, d4⟩, -⟩ := hSw.out; dsimp only at g0 g2 d1 d2 d3; go_simp; try with_reducible rfl
  try simp only [Act.put, List.getElem_toArray, List.getElem_cons_zero, List.getElem_cons_succ, List.setIfInBounds_toArray, List.set_cons_zero, List.set_cons_succ]
  refine wpAnyH_take (i := 8) (v := ?_) rfl (by kernel_rfl) (by kernel_rfl) (by kernel_rfl) (fun _ _ _ h => h) (Or.inl ⟨by rfl, ?_⟩) (by assumption) ?_
  rotate_left 1
  · intro w _; go_simp; try with_reducible rfl
  try simp only [Act.put, List.getElem_toArray, List.getElem_cons_zero, List.getElem_cons_succ, List.setIfInBounds_toArray, List.set_cons_zero, List.set_cons_succ]
  refine wpAnyH_take (i := 9) (v := ?_) rfl (by kernel_rfl) (by kernel_rfl) (by kernel_rfl) (fun _ _ _ h => h) (Or.inl ⟨by rfl, ?_⟩) (by assumption) ?_
  rotate_left 1
  · intro w hSw; (try dsimp only at hSw); obtain ⟨-, -, g0, g2, -, ⟨-, i0, i1, i2⟩, ⟨d0, d1, d2, d3, d4⟩, -⟩ := hSw.out; dsimp only at g0 g2 d1 d2 d3; go_simp; try with_reducible rfl
  try simp only [Act.put, List.getElem_toArray, List.getElem_cons_zero, List.getElem_cons_succ, List.setIfInBounds_toArray, List.set_cons_zero, List.set_cons_succ]
  refine wpAnyH_take (i := 10) (v := ?_) rfl (by kernel_rfl) (by kernel_rfl) (by kernel_rfl) (fun _ _ _ h => h) (Or.inl ⟨by rfl, ?_⟩) (by assumption) ?_
  rotate_left 1
  · intro w _; go_simp; try with_reducible rfl
  try simp only [Act.put, List.getElem_toArray, List.getElem_cons_zero, List.getElem_cons_succ, List.setIfInBounds_toArray, List.set_cons_zero, List.set_cons_succ]
  refine wpAnyH_take (i := 11) (v := ?_) rfl (by kernel_rfl) (by kernel_rfl) (by kernel_rfl) (fun _ _ _ h => h) (Or.inl ⟨by rfl, ?_⟩) (by assumption) ?_
  rotate_left 1
  · intro w hSw; (try dsimp only at hSw); obtain ⟨-, -, g0, g2, -, ⟨-, i0, i1, i2⟩, ⟨d0, d1, d2, d3, d4⟩, -⟩ := hSw.out; dsimp only at g0 g2 d1 d2 d3; go_simp; try with_reducible rfl
  try simp only [Act.put, List.getElem_toArray, List.getElem_cons_zero, List.getElem_cons_succ, List.setIfInBounds_toArray, List.set_cons_zero, List.set_cons_succ]
  refine wpAnyH_take (i := 12) (v := ?_) rfl (by kernel_rfl) (by kernel_rfl) (by kernel_rfl) (fun _ _ _ h => h) (Or.inl ⟨by rfl, ?_⟩) (by assumption) ?_
  rotate_left 1
  · intro w _; go_simp; try with_reducible rfl
  try simp only [Act.put, List.getElem_toArray, List.getElem_cons_zero, List.getElem_cons_succ, List.setIfInBounds_toArray, List.set_cons_zero, List.set_cons_succ]
  refine wpAnyH_take (i := 13) (v := ?_) rfl (by kernel_rfl) (by kernel_rfl) (by kernel_rfl) (fun _ _ _ h => h) (Or.inl ⟨by rfl, ?_⟩) (by assumption) ?_
  rotate_left 1
  · intro w _; go_simp; try with_reducible rfl
  try simp only [Act.put, List.getElem_toArray, List.getElem_cons_zero, List.getElem_cons_succ, List.setIfInBounds_toArray, List.set_cons_zero, List.set_cons_succ]
  refine wpAnyH_take (i := 14) (v := ?_) rfl (by kernel_rfl) (by kernel_rfl) (by kernel_rfl) (fun _ _ _ h => h) (Or.inl ⟨by rfl, ?_⟩) (by assumption) ?_
  rotate_left 1
  · intro w hSw; (try dsimp only at hSw); obtain ⟨-, -, g0, g2, -, ⟨-, i0, i1, i2⟩, ⟨d0, d1, d2, d3, d4⟩, -⟩ := hSw.out; dsimp only at g0 g2 d1 d2 d3; go_simp; try with_reducible rfl
  try simp only [Act.put, List.getElem_toArray, List.getElem_cons_zero, List.getElem_cons_succ, List.setIfInBounds_toArray, List.set_cons_zero, List.set_cons_succ]
  refine wpAnyH_ready (rs := [15]) (by kernel_rfl) (by simp) ?_
  refine AllReadyH.cons rfl (fun K hK => ?_) AllReadyH.nil
  have hHeld2 : Hid (Sx w _ [fR (some ⟨_, 0, none⟩) 1 [r], fC1 (ad.add (b * 8)) (.slice mA J.length mc), fC1 ⟨(ad.add (b * 8)).block, (ad.add (b * 8)).off + 2, none⟩ (.int .u8 r), fR mA mc J, fIc (B + 1 + 1) 30 b z, fD B ⟨G, gc, P, pc, (some ad), cc, Z⟩ d, fR A c R]) := Lib.hid ⟨(hHeld.out.call (new1 (a := .cells #[.int .u8 r] 5))).1, rd_one _ r hmr, (hHeld.out.call (new1 (a := .cells #[.int .u8 r] 5))).2.2⟩
  go_simp
  refine hK.out _ _ (Lib.hid (hHeld.out.call new1)) (fun hHeld => ?_)
  clear hK K
  refine wpAnyH_swap (S' := fun w' => Hid (Sx w w' [fR (some ⟨w4.drew.heap.size, 0, none⟩) 1 [r], fC1 (ad.add (b * 8)) (.slice mA J.length mc), fC1 ⟨(ad.add (b * 8)).block, (ad.add (b * 8)).off + 2, none⟩ (.int .u8 r), fR mA mc J, fIc (B + 1 + 1) 30 b z, fD B ⟨G, gc, P, pc, (some ad), cc, Z⟩ d, fR A c R])) (fun _ h => ⟨h.out.1, h.out.2.2.2.2.2.2.2.1, h.out.2.2⟩) _ _ _ _ ?_
  clear hHeld
  have hHeld := hHeld2
  clear hHeld2
  try simp only [Act.put, List.getElem_toArray, List.getElem_cons_zero, List.getElem_cons_succ, List.setIfInBounds_toArray, List.set_cons_zero, List.set_cons_succ]
  refine wpAnyH_ready (rs := [16]) (by kernel_rfl) (by simp) ?_
  refine AllReadyH.cons rfl (fun K hK => ?_) AllReadyH.nil
  go_simp
  refine (drop10_v A mA (some ⟨w4.drew.heap.size, 0, none⟩) c n mc J.length 1 1 R J [r] _ hHeld.out.2.2.2.2.2.2.2.1 HN.out (by omega) hHeld.out.2.2.2.2.1 rfl hHeld.out.2.1 rfl (by omega)).mono ?_
  rintro e w5 ⟨A', c', rfl, hr5, hb⟩
  have HR5 := Lib.hid hr5
  clear hr5
  go_wp2_with fail
  refine hK.out _ _ (Hsx.call hb hHeld) (fun hHeld => ?_)
  clear hK K
  try simp only [Act.put, List.getElem_toArray, List.getElem_cons_zero, List.getElem_cons_succ, List.setIfInBounds_toArray, List.set_cons_zero, List.set_cons_succ]
  refine wpAnyH_take (i := 17) (v := ?_) rfl (by kernel_rfl) (by kernel_rfl) (by kernel_rfl) (fun _ _ _ h => h) (Or.inl ⟨by rfl, ?_⟩) (by assumption) ?_
  rotate_left 1
  · intro w _; go_simp; try with_reducible rfl
  try simp only [Act.put, List.getElem_toArray, List.getElem_cons_zero, List.getElem_cons_succ, List.setIfInBounds_toArray, List.set_cons_zero, List.set_cons_succ]
  refine wpAnyH_take (i := 18) (v := ?_) rfl (by kernel_rfl) (by kernel_rfl) (by kernel_rfl) (fun _ _ _ h => h) (Or.inl ⟨by rfl, ?_⟩) (by assumption) ?_
  rotate_left 1
  · intro w _; go_simp; try with_reducible rfl
  try simp only [Act.put, List.getElem_toArray, List.getElem_cons_zero, List.getElem_cons_succ, List.setIfInBounds_toArray, List.set_cons_zero, List.set_cons_succ]
  refine wpAnyH_take (i := 19) (v := ?_) rfl (by kernel_rfl) (by kernel_rfl) (by kernel_rfl) (fun _ _ _ h => h) (Or.inl ⟨by rfl, ?_⟩) (by assumption) ?_
  rotate_left 1
  · intro w _; go_simp; try with_reducible rfl
  try simp only [Act.put, List.getElem_toArray, List.getElem_cons_zero, List.getElem_cons_succ, List.setIfInBounds_toArray, List.set_cons_zero, List.set_cons_succ]
  refine wpAnyH_take (i := 20) (v := ?_) rfl (by kernel_rfl) (by kernel_rfl) (by kernel_rfl) (fun _ _ _ h => h) (Or.inl ⟨by rfl, ?_⟩) (by assumption) ?_
  rotate_left 1
  · intro w _; go_simp; try with_reducible rfl
  try simp only [Act.put, List.getElem_toArray, List.getElem_cons_zero, List.getElem_cons_succ, List.setIfInBounds_toArray, List.set_cons_zero, List.set_cons_succ]
  refine wpAnyH_done (by kernel_rfl) ?_ _
  have HA : Hid (Dr10 w w5 (st10 d m (30, (b : Int), z) R) (.returned (.tuple #[.slice A' ((dp10 R J [r]).getD []).length c', .bool (dp10 R J [r]).isSome]))) := Lib.hid (by rw [HE.out]; exact ⟨A', c', rfl, HR5.out, hHeld.out.1⟩)
  clear hHeld
  go_wp2_with fail
  go_ret2
  exact HA.out
theorem step10_v (y : Ma) (d : Md) (x : Mc) (m : Mh) (o : Int) (b : Nat) (z : Int) (A : Option Addr) (c n : Nat) (R : List Int) (w : World) (hq : Hq w y d) (hx : Hd w x m) (hr : Rd w A c R) (hn : R.length = n) (hnb : n ≤ 300000) (b1 : m.a.length ≤ 1000) (b2 : m.l.length ≤ 1000) (hth : th10 d m (o, (b : Int), z) = true) :
    Calls Try.prog 13 #[dv y d, mv x m, .agg #[.int .u8 o, .int .i64 b, .int .i64 z], .slice A n c] w fun e w' => Dr10 w w' (st10 d m (o, (b : Int), z) R) e := by
  by_cases n1 : o = 1
  · subst n1; exact step10_1 y d x m b z A c n R w hq hx hr hn hnb b1 b2 (by simpa [th10] using hth)
  by_cases n2 : o = 2
  · subst n2; exact step10_2 y d x m b z A c n R w hq hx hr hn hnb b1 b2 (by have := hth; simp [th10] at this; omega)
  by_cases n3 : o = 3
  · subst n3; exact step10_3 y d x m b z A c n R w hq hx hr hn hnb b1 b2 (by have := hth; simp [th10] at this; omega)
  by_cases n4 : o = 4
  · subst n4; exact step10_4 y d x m b z A c n R w hq hx hr hn hnb b1 b2 (by simpa [th10] using hth)
  by_cases n5 : o = 5
  · subst n5; exact step10_5 y d x m b z A c n R w hq hx hr hn hnb b1 b2 (by simpa [th10] using hth)
  by_cases n7 : o = 7
  · subst n7; exact step10_7 y d x m b z A c n R w hq hx hr hn hnb b1 b2
  by_cases n8 : o = 8
  · subst n8; exact step10_8 y d x m b z A c n R w hq hx hr hn hnb b1 b2
  by_cases n30 : o = 30
  · subst n30; exact step10_30 y d x m b z A c n R w hq hx hr hn hnb b1 b2 (by simpa [th10] using hth)
  by_cases n31 : o = 31
  · subst n31; exact step10_31 y d x m b z A c n R w hq hx hr hn hnb b1 b2
  exact step10_d y d x m o b z A c n R w hq hx hr hn hnb b1 b2 n1 n2 n3 n4 n5 n7 n8 n30 n31
end Go.Proofs.Ytplgmdbocmfbcaa
