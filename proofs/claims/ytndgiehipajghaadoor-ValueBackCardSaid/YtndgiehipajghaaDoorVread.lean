/-
  The eight ways through value.Read, each a contract under its own conditions; nothing that was there has changed.
-/
import Derived.Test.YtndgiehipajghaaDoorVfld
namespace Go.Proofs.YtndgiehipajghaaDoor
open Go.RowKit
set_option linter.unusedSimpArgs false
set_option linter.unusedVariables false

set_option maxRecDepth 100000 in
set_option maxHeartbeats 2000000 in
/-- No kind is there. -/
theorem vr_1 (A : Option Addr) (c : Nat) (l : List Int) (p : Int) (k n1 e1 : Int) (w : World) (hr : Rd w A c l) (hw : GW w) (h1 : getV l p 1 = k ∧ getN l p 1 = n1 ∧ getE l p 1 = e1) (he : (e1 != 0) = true) : Calls Tryd.prog 19 #[.slice A l.length c, .int .i64 p] w fun e w' => e = .returned (.tuple #[.agg #[.int .u8 0, .int .i64 0, .int .i64 0], .int .i64 0, .int .i64 e1]) ∧ Below w.heap.size w w' := by
  have HR := Lib.hid hr
  have HG := Lib.hid hw
  clear hr hw
  have E1 := Lib.hid h1
  clear h1
  go_enter Tryd.func19, Tryd.ntmps19
  go_wp2_with fail
  refine (get_any A c l p 1 _ (HR.out.alloc _)).mono ?_
  rintro e w1 ⟨rfl, hb1⟩
  rw [E1.out.1, E1.out.2.1, E1.out.2.2]
  have HV1 := Lib.hid ((Vl.new w 0 0 0).keep hb1)
  have HB1 := Lib.hid (below1 hb1)
  clear hb1 E1
  obtain ⟨b0, v0, v1, v2, f0, f1, f2⟩ := HV1.out
  go_wp2_with fail
  exact bodyPost_ret (v := .tuple #[.agg #[.int .u8 0, .int .i64 0, .int .i64 0], .int .i64 0, .int .i64 e1]) (by simp [results, Tryd.results19, go_sem, v0, v1, v2]) rfl ⟨rfl, (below_set2 HB1.out (by simp) (by simp) _ _).setCell (by simp) _⟩
set_option maxRecDepth 100000 in
set_option maxHeartbeats 2000000 in
/-- What is there is no kind. -/
theorem vr_2 (A : Option Addr) (c : Nat) (l : List Int) (p : Int) (k n1 : Int) (w : World) (hr : Rd w A c l) (hw : GW w) (h1 : getV l p 1 = k ∧ getN l p 1 = n1 ∧ getE l p 1 = 0) (hk : 0 ≤ k ∧ k < 256) (hm : mayB k 0 0 = false) : Calls Tryd.prog 19 #[.slice A l.length c, .int .i64 p] w fun e w' => e = .returned (.tuple #[.agg #[.int .u8 0, .int .i64 0, .int .i64 0], .int .i64 0, .int .i64 30]) ∧ Below w.heap.size w w' := by
  have HR := Lib.hid hr
  have HG := Lib.hid hw
  clear hr hw
  obtain ⟨hk1, hk2⟩ := hk
  have E1 := Lib.hid h1
  have M := Lib.hid hm
  clear h1 hm
  go_enter Tryd.func19, Tryd.ntmps19
  go_wp2_with fail
  refine (get_any A c l p 1 _ (HR.out.alloc _)).mono ?_
  rintro e w1 ⟨rfl, hb1⟩
  rw [E1.out.1, E1.out.2.1, E1.out.2.2]
  have HV1 := Lib.hid ((Vl.new w 0 0 0).keep hb1)
  have HB1 := Lib.hid (below1 hb1)
  clear hb1 E1
  obtain ⟨b0, v0, v1, v2, f0, f1, f2⟩ := HV1.out
  go_wp2_with fail
  clear v0 v1 v2 f0 f1 f2
  refine (vmay_v k 0 0 _ _ M.out).mono ?_
  rintro e w2 ⟨rfl, hb2⟩
  have HV2 := Lib.hid ((HV1.out.set0 k).keep hb2)
  have HB2 := Lib.hid (below_on (HB1.out.setCell (p := ⟨w.heap.size, 0, none⟩) (Nat.le_refl _) (.int .u8 k)) hb2)
  clear hb2 HV1 HB1 b0
  obtain ⟨b0, v0, v1, v2, f0, f1, f2⟩ := HV2.out
  go_wp2_with fail
  exact bodyPost_ret (v := .tuple #[.agg #[.int .u8 0, .int .i64 0, .int .i64 0], .int .i64 0, .int .i64 30]) (by simp [results, Tryd.results19, go_sem, v0, v1, v2]) rfl ⟨rfl, (below_set2 HB2.out (by simp) (by simp) _ _).setCell (by simp) _⟩
set_option maxRecDepth 100000 in
set_option maxHeartbeats 2000000 in
/-- An integer without its bytes. -/
theorem vr_3 (A : Option Addr) (c : Nat) (l : List Int) (p : Int) (n1 x n2 e2 : Int) (w : World) (hr : Rd w A c l) (hw : GW w) (h1 : getV l p 1 = 1 ∧ getN l p 1 = n1 ∧ getE l p 1 = 0) (h2 : sigV l n1 = x ∧ cutN l n1 8 = n2 ∧ cutE l n1 8 = e2) (he : (e2 != 0) = true) : Calls Tryd.prog 19 #[.slice A l.length c, .int .i64 p] w fun e w' => e = .returned (.tuple #[.agg #[.int .u8 0, .int .i64 0, .int .i64 0], .int .i64 0, .int .i64 e2]) ∧ Below w.heap.size w w' := by
  have HR := Lib.hid hr
  have HG := Lib.hid hw
  clear hr hw
  have M : Hid (mayB 1 0 0 = true) := by simp [Hid, mayB]
  have E1 := Lib.hid h1
  have E2 := Lib.hid h2
  clear h1 h2
  go_enter Tryd.func19, Tryd.ntmps19
  go_wp2_with fail
  refine (get_any A c l p 1 _ (HR.out.alloc _)).mono ?_
  rintro e w1 ⟨rfl, hb1⟩
  rw [E1.out.1, E1.out.2.1, E1.out.2.2]
  have HV1 := Lib.hid ((Vl.new w 0 0 0).keep hb1)
  have HB1 := Lib.hid (below1 hb1)
  clear hb1 E1
  obtain ⟨b0, v0, v1, v2, f0, f1, f2⟩ := HV1.out
  go_wp2_with fail
  clear v0 v1 v2 f0 f1 f2
  refine (vmay_v 1 0 0 _ _ M.out).mono ?_
  rintro e w2 ⟨rfl, hb2⟩
  have HV2 := Lib.hid ((HV1.out.set0 1).keep hb2)
  have HB2 := Lib.hid (below_on (HB1.out.setCell (p := ⟨w.heap.size, 0, none⟩) (Nat.le_refl _) (.int .u8 1)) hb2)
  clear hb2 HV1 HB1 b0
  obtain ⟨b0, v0, v1, v2, f0, f1, f2⟩ := HV2.out
  obtain ⟨g0, g1, g2, g3, g4, g5⟩ := HG.out.keep HB2.out
  go_wp2_with fail
  clear g0 g1 g2 g3 g4 g5 v0 v1 v2 f0 f1 f2
  refine (gf_8 A c _ l n1 x n2 e2 _ (HR.out.keep (below_on HB2.out new1)) rfl E2.out).mono ?_
  rintro e w3 ⟨rfl, hb3⟩
  have HP3 := Lib.hid ((P2.new w2 8 0 45).keep hb3)
  have HV3 := Lib.hid ((HV2.out.alloc _).keep hb3)
  have HB3 := Lib.hid (below_on HB2.out (below1 hb3))
  have hne : w.heap.size ≠ w2.heap.size := Nat.ne_of_lt b0
  have HN := Lib.hid hne
  clear hb3 HV2 HB2 b0 hne
  obtain ⟨b0, v0, v1, v2, f0, f1, f2⟩ := HV3.out
  go_wp2_with fail
  exact bodyPost_ret (v := .tuple #[.agg #[.int .u8 0, .int .i64 0, .int .i64 0], .int .i64 0, .int .i64 e2]) (by simp [results, Tryd.results19, go_sem, v0, v1, v2]) rfl ⟨rfl, (below_set2 ((HB3.out).setCell (p := ⟨w.heap.size, 1, none⟩) (Nat.le_refl _) (.int .i64 x)) (by simp) (by simp) _ _).setCell (by simp) _⟩
set_option maxRecDepth 100000 in
set_option maxHeartbeats 2000000 in
/-- An integer. -/
theorem vr_4 (A : Option Addr) (c : Nat) (l : List Int) (p : Int) (n1 x n2 : Int) (w : World) (hr : Rd w A c l) (hw : GW w) (h1 : getV l p 1 = 1 ∧ getN l p 1 = n1 ∧ getE l p 1 = 0) (h2 : sigV l n1 = x ∧ cutN l n1 8 = n2 ∧ cutE l n1 8 = 0)  : Calls Tryd.prog 19 #[.slice A l.length c, .int .i64 p] w fun e w' => e = .returned (.tuple #[.agg #[.int .u8 1, .int .i64 x, .int .i64 0], .int .i64 n2, .int .i64 0]) ∧ Below w.heap.size w w' := by
  have HR := Lib.hid hr
  have HG := Lib.hid hw
  clear hr hw
  have M : Hid (mayB 1 0 0 = true) := by simp [Hid, mayB]
  have M' : Hid (mayB 1 x 0 = true) := by simp [Hid, mayB]
  have E1 := Lib.hid h1
  have E2 := Lib.hid h2
  clear h1 h2
  go_enter Tryd.func19, Tryd.ntmps19
  go_wp2_with fail
  refine (get_any A c l p 1 _ (HR.out.alloc _)).mono ?_
  rintro e w1 ⟨rfl, hb1⟩
  rw [E1.out.1, E1.out.2.1, E1.out.2.2]
  have HV1 := Lib.hid ((Vl.new w 0 0 0).keep hb1)
  have HB1 := Lib.hid (below1 hb1)
  clear hb1 E1
  obtain ⟨b0, v0, v1, v2, f0, f1, f2⟩ := HV1.out
  go_wp2_with fail
  clear v0 v1 v2 f0 f1 f2
  refine (vmay_v 1 0 0 _ _ M.out).mono ?_
  rintro e w2 ⟨rfl, hb2⟩
  have HV2 := Lib.hid ((HV1.out.set0 1).keep hb2)
  have HB2 := Lib.hid (below_on (HB1.out.setCell (p := ⟨w.heap.size, 0, none⟩) (Nat.le_refl _) (.int .u8 1)) hb2)
  clear hb2 HV1 HB1 b0
  obtain ⟨b0, v0, v1, v2, f0, f1, f2⟩ := HV2.out
  obtain ⟨g0, g1, g2, g3, g4, g5⟩ := HG.out.keep HB2.out
  go_wp2_with fail
  clear g0 g1 g2 g3 g4 g5 v0 v1 v2 f0 f1 f2
  refine (gf_8 A c _ l n1 x n2 0 _ (HR.out.keep (below_on HB2.out new1)) rfl E2.out).mono ?_
  rintro e w3 ⟨rfl, hb3⟩
  have HP3 := Lib.hid ((P2.new w2 8 0 45).keep hb3)
  have HV3 := Lib.hid ((HV2.out.alloc _).keep hb3)
  have HB3 := Lib.hid (below_on HB2.out (below1 hb3))
  have hne : w.heap.size ≠ w2.heap.size := Nat.ne_of_lt b0
  have HN := Lib.hid hne
  clear hb3 HV2 HB2 b0 hne
  obtain ⟨b0, v0, v1, v2, f0, f1, f2⟩ := HV3.out
  go_upto_region 11 with (fail)
  have HV4 := Lib.hid (HV3.out.set1 x)
  have HP4 := Lib.hid (HP3.out.other (p := ⟨w.heap.size, 1, none⟩) HN.out (.int .i64 x))
  have HB4 := Lib.hid (HB3.out.setCell (p := ⟨w.heap.size, 1, none⟩) (Nat.le_refl _) (.int .i64 x))
  obtain ⟨c0, p0, p1, -, -⟩ := HP4.out
  obtain ⟨-, u0, u1, u2, h0, h1, h2⟩ := HV4.out
  go_wp2_with fail
  clear p0 p1 v0 v1 v2 f0 f1 f2 u0 u1 u2 h0 h1 h2 HV3 HP3 HB3
  refine (gf_0 A c _ n2 _).mono ?_
  rintro e w5 ⟨rfl, rfl⟩
  obtain ⟨-, u0, u1, u2, h0, h1, h2⟩ := HV4.out
  go_wp2_with fail
  clear u0 u1 u2 h0 h1 h2
  have HV5 := Lib.hid (HV4.out.set2 0)
  have HB5 := Lib.hid (HB4.out.setCell (p := ⟨w.heap.size, 2, none⟩) (Nat.le_refl _) (.int .i64 0))
  refine (vmay_v 1 x 0 _ _ M'.out).mono ?_
  rintro e w6 ⟨rfl, hb6⟩
  have HV6 := Lib.hid (HV5.out.keep hb6)
  have HB6 := Lib.hid (below_on HB5.out hb6)
  clear hb6
  obtain ⟨b6, v0, v1, v2, f0, f1, f2⟩ := HV6.out
  go_wp2_with fail
  exact bodyPost_ret (v := .tuple #[.agg #[.int .u8 1, .int .i64 x, .int .i64 0], .int .i64 n2, .int .i64 0]) (by simp [results, Tryd.results19, go_sem, v0, v1, v2]) rfl ⟨rfl, (below_set2 HB6.out (by simp) (by simp) _ _).setCell (by simp) _⟩
set_option maxRecDepth 100000 in
set_option maxHeartbeats 2000000 in
/-- A pair without its first part. -/
theorem vr_5 (A : Option Addr) (c : Nat) (l : List Int) (p : Int) (n1 x n2 e2 : Int) (w : World) (hr : Rd w A c l) (hw : GW w) (h1 : getV l p 1 = 2 ∧ getN l p 1 = n1 ∧ getE l p 1 = 0) (h2 : getV l n1 3 = x ∧ getN l n1 3 = n2 ∧ getE l n1 3 = e2) (hx : 0 ≤ x ∧ x < 16777216) (he : (e2 != 0) = true) : Calls Tryd.prog 19 #[.slice A l.length c, .int .i64 p] w fun e w' => e = .returned (.tuple #[.agg #[.int .u8 0, .int .i64 0, .int .i64 0], .int .i64 0, .int .i64 e2]) ∧ Below w.heap.size w w' := by
  have HR := Lib.hid hr
  have HG := Lib.hid hw
  clear hr hw
  have M : Hid (mayB 2 0 0 = true) := by simp [Hid, mayB, okB_0]
  have E1 := Lib.hid h1
  have E2 := Lib.hid h2
  have HX := Lib.hid hx
  clear h1 h2 hx
  have x1 := HX.out.1
  have x2 := HX.out.2
  go_enter Tryd.func19, Tryd.ntmps19
  go_wp2_with fail
  refine (get_any A c l p 1 _ (HR.out.alloc _)).mono ?_
  rintro e w1 ⟨rfl, hb1⟩
  rw [E1.out.1, E1.out.2.1, E1.out.2.2]
  have HV1 := Lib.hid ((Vl.new w 0 0 0).keep hb1)
  have HB1 := Lib.hid (below1 hb1)
  clear hb1 E1
  obtain ⟨b0, v0, v1, v2, f0, f1, f2⟩ := HV1.out
  go_wp2_with fail
  clear v0 v1 v2 f0 f1 f2
  refine (vmay_v 2 0 0 _ _ M.out).mono ?_
  rintro e w2 ⟨rfl, hb2⟩
  have HV2 := Lib.hid ((HV1.out.set0 2).keep hb2)
  have HB2 := Lib.hid (below_on (HB1.out.setCell (p := ⟨w.heap.size, 0, none⟩) (Nat.le_refl _) (.int .u8 2)) hb2)
  clear hb2 HV1 HB1 b0
  obtain ⟨b0, v0, v1, v2, f0, f1, f2⟩ := HV2.out
  obtain ⟨g0, g1, g2, g3, g4, g5⟩ := HG.out.keep HB2.out
  go_wp2_with fail
  clear g0 g1 g2 g3 g4 g5 v0 v1 v2 f0 f1 f2
  refine (gf_3 A c _ l n1 x n2 e2 _ (HR.out.keep (below_on HB2.out new1)) rfl E2.out HX.out).mono ?_
  rintro e w3 ⟨rfl, hb3⟩
  have HP3 := Lib.hid ((P2.new w2 3 3 45).keep hb3)
  have HV3 := Lib.hid ((HV2.out.alloc _).keep hb3)
  have HB3 := Lib.hid (below_on HB2.out (below1 hb3))
  have hne : w.heap.size ≠ w2.heap.size := Nat.ne_of_lt b0
  have HN := Lib.hid hne
  clear hb3 HV2 HB2 b0 hne
  obtain ⟨b0, v0, v1, v2, f0, f1, f2⟩ := HV3.out
  go_wp2_with fail
  exact bodyPost_ret (v := .tuple #[.agg #[.int .u8 0, .int .i64 0, .int .i64 0], .int .i64 0, .int .i64 e2]) (by simp [results, Tryd.results19, go_sem, v0, v1, v2]) rfl ⟨rfl, (below_set2 ((HB3.out).setCell (p := ⟨w.heap.size, 1, none⟩) (Nat.le_refl _) (.int .i64 (x - 1048576))) (by simp) (by simp) _ _).setCell (by simp) _⟩
set_option maxRecDepth 100000 in
set_option maxHeartbeats 2000000 in
/-- A pair without its second part. -/
theorem vr_6 (A : Option Addr) (c : Nat) (l : List Int) (p : Int) (n1 x n2 y n3 e3 : Int) (w : World) (hr : Rd w A c l) (hw : GW w) (h1 : getV l p 1 = 2 ∧ getN l p 1 = n1 ∧ getE l p 1 = 0) (h2 : getV l n1 3 = x ∧ getN l n1 3 = n2 ∧ getE l n1 3 = 0) (hx : 0 ≤ x ∧ x < 16777216) (h3 : getV l n2 3 = y ∧ getN l n2 3 = n3 ∧ getE l n2 3 = e3) (hy : 0 ≤ y ∧ y < 16777216) (he : (e3 != 0) = true) : Calls Tryd.prog 19 #[.slice A l.length c, .int .i64 p] w fun e w' => e = .returned (.tuple #[.agg #[.int .u8 0, .int .i64 0, .int .i64 0], .int .i64 0, .int .i64 e3]) ∧ Below w.heap.size w w' := by
  have HR := Lib.hid hr
  have HG := Lib.hid hw
  clear hr hw
  have M : Hid (mayB 2 0 0 = true) := by simp [Hid, mayB, okB_0]
  have E1 := Lib.hid h1
  have E2 := Lib.hid h2
  have HX := Lib.hid hx
  clear h1 h2 hx
  have E3 := Lib.hid h3
  have HY := Lib.hid hy
  clear h3 hy
  have x1 := HX.out.1
  have x2 := HX.out.2
  have y1 := HY.out.1
  have y2 := HY.out.2
  go_enter Tryd.func19, Tryd.ntmps19
  go_wp2_with fail
  refine (get_any A c l p 1 _ (HR.out.alloc _)).mono ?_
  rintro e w1 ⟨rfl, hb1⟩
  rw [E1.out.1, E1.out.2.1, E1.out.2.2]
  have HV1 := Lib.hid ((Vl.new w 0 0 0).keep hb1)
  have HB1 := Lib.hid (below1 hb1)
  clear hb1 E1
  obtain ⟨b0, v0, v1, v2, f0, f1, f2⟩ := HV1.out
  go_wp2_with fail
  clear v0 v1 v2 f0 f1 f2
  refine (vmay_v 2 0 0 _ _ M.out).mono ?_
  rintro e w2 ⟨rfl, hb2⟩
  have HV2 := Lib.hid ((HV1.out.set0 2).keep hb2)
  have HB2 := Lib.hid (below_on (HB1.out.setCell (p := ⟨w.heap.size, 0, none⟩) (Nat.le_refl _) (.int .u8 2)) hb2)
  clear hb2 HV1 HB1 b0
  obtain ⟨b0, v0, v1, v2, f0, f1, f2⟩ := HV2.out
  obtain ⟨g0, g1, g2, g3, g4, g5⟩ := HG.out.keep HB2.out
  go_wp2_with fail
  clear g0 g1 g2 g3 g4 g5 v0 v1 v2 f0 f1 f2
  refine (gf_3 A c _ l n1 x n2 0 _ (HR.out.keep (below_on HB2.out new1)) rfl E2.out HX.out).mono ?_
  rintro e w3 ⟨rfl, hb3⟩
  have HP3 := Lib.hid ((P2.new w2 3 3 45).keep hb3)
  have HV3 := Lib.hid ((HV2.out.alloc _).keep hb3)
  have HB3 := Lib.hid (below_on HB2.out (below1 hb3))
  have hne : w.heap.size ≠ w2.heap.size := Nat.ne_of_lt b0
  have HN := Lib.hid hne
  clear hb3 HV2 HB2 b0 hne
  obtain ⟨b0, v0, v1, v2, f0, f1, f2⟩ := HV3.out
  go_upto_region 11 with (fail)
  have HV4 := Lib.hid (HV3.out.set1 (x - 1048576))
  have HP4 := Lib.hid (HP3.out.other (p := ⟨w.heap.size, 1, none⟩) HN.out (.int .i64 (x - 1048576)))
  have HB4 := Lib.hid (HB3.out.setCell (p := ⟨w.heap.size, 1, none⟩) (Nat.le_refl _) (.int .i64 (x - 1048576)))
  obtain ⟨c0, p0, p1, -, -⟩ := HP4.out
  obtain ⟨-, u0, u1, u2, h0, h1, h2⟩ := HV4.out
  go_wp2_with fail
  clear p0 p1 v0 v1 v2 f0 f1 f2 u0 u1 u2 h0 h1 h2 HV3 HP3 HB3
  refine (gf_3 A c _ l n2 y n3 e3 _ (HR.out.keep HB4.out) rfl E3.out HY.out).mono ?_
  rintro e w4 ⟨rfl, hb4⟩
  have HV5' := Lib.hid (HV4.out.keep hb4)
  have HB5' := Lib.hid (below_on HB4.out hb4)
  clear hb4 HV4 HP4 HB4
  obtain ⟨b4, v0, v1, v2, f0, f1, f2⟩ := HV5'.out
  go_wp2_with fail
  exact bodyPost_ret (v := .tuple #[.agg #[.int .u8 0, .int .i64 0, .int .i64 0], .int .i64 0, .int .i64 e3]) (by simp [results, Tryd.results19, go_sem, v0, v1, v2]) rfl ⟨rfl, (below_set2 ((HB5'.out).setCell (p := ⟨w.heap.size, 2, none⟩) (Nat.le_refl _) (.int .i64 (y - 1048576))) (by simp) (by simp) _ _).setCell (by simp) _⟩
set_option maxRecDepth 100000 in
set_option maxHeartbeats 2000000 in
/-- A pair with a part beyond. -/
theorem vr_7 (A : Option Addr) (c : Nat) (l : List Int) (p : Int) (n1 x n2 y n3 : Int) (w : World) (hr : Rd w A c l) (hw : GW w) (h1 : getV l p 1 = 2 ∧ getN l p 1 = n1 ∧ getE l p 1 = 0) (h2 : getV l n1 3 = x ∧ getN l n1 3 = n2 ∧ getE l n1 3 = 0) (hx : 0 ≤ x ∧ x < 16777216) (h3 : getV l n2 3 = y ∧ getN l n2 3 = n3 ∧ getE l n2 3 = 0) (hy : 0 ≤ y ∧ y < 16777216) (hm : mayB 2 (x - 1048576) (y - 1048576) = false) : Calls Tryd.prog 19 #[.slice A l.length c, .int .i64 p] w fun e w' => e = .returned (.tuple #[.agg #[.int .u8 0, .int .i64 0, .int .i64 0], .int .i64 0, .int .i64 30]) ∧ Below w.heap.size w w' := by
  have HR := Lib.hid hr
  have HG := Lib.hid hw
  clear hr hw
  have M : Hid (mayB 2 0 0 = true) := by simp [Hid, mayB, okB_0]
  have E1 := Lib.hid h1
  have E2 := Lib.hid h2
  have HX := Lib.hid hx
  clear h1 h2 hx
  have E3 := Lib.hid h3
  have HY := Lib.hid hy
  have M' := Lib.hid hm
  clear h3 hy hm
  have x1 := HX.out.1
  have x2 := HX.out.2
  have y1 := HY.out.1
  have y2 := HY.out.2
  go_enter Tryd.func19, Tryd.ntmps19
  go_wp2_with fail
  refine (get_any A c l p 1 _ (HR.out.alloc _)).mono ?_
  rintro e w1 ⟨rfl, hb1⟩
  rw [E1.out.1, E1.out.2.1, E1.out.2.2]
  have HV1 := Lib.hid ((Vl.new w 0 0 0).keep hb1)
  have HB1 := Lib.hid (below1 hb1)
  clear hb1 E1
  obtain ⟨b0, v0, v1, v2, f0, f1, f2⟩ := HV1.out
  go_wp2_with fail
  clear v0 v1 v2 f0 f1 f2
  refine (vmay_v 2 0 0 _ _ M.out).mono ?_
  rintro e w2 ⟨rfl, hb2⟩
  have HV2 := Lib.hid ((HV1.out.set0 2).keep hb2)
  have HB2 := Lib.hid (below_on (HB1.out.setCell (p := ⟨w.heap.size, 0, none⟩) (Nat.le_refl _) (.int .u8 2)) hb2)
  clear hb2 HV1 HB1 b0
  obtain ⟨b0, v0, v1, v2, f0, f1, f2⟩ := HV2.out
  obtain ⟨g0, g1, g2, g3, g4, g5⟩ := HG.out.keep HB2.out
  go_wp2_with fail
  clear g0 g1 g2 g3 g4 g5 v0 v1 v2 f0 f1 f2
  refine (gf_3 A c _ l n1 x n2 0 _ (HR.out.keep (below_on HB2.out new1)) rfl E2.out HX.out).mono ?_
  rintro e w3 ⟨rfl, hb3⟩
  have HP3 := Lib.hid ((P2.new w2 3 3 45).keep hb3)
  have HV3 := Lib.hid ((HV2.out.alloc _).keep hb3)
  have HB3 := Lib.hid (below_on HB2.out (below1 hb3))
  have hne : w.heap.size ≠ w2.heap.size := Nat.ne_of_lt b0
  have HN := Lib.hid hne
  clear hb3 HV2 HB2 b0 hne
  obtain ⟨b0, v0, v1, v2, f0, f1, f2⟩ := HV3.out
  go_upto_region 11 with (fail)
  have HV4 := Lib.hid (HV3.out.set1 (x - 1048576))
  have HP4 := Lib.hid (HP3.out.other (p := ⟨w.heap.size, 1, none⟩) HN.out (.int .i64 (x - 1048576)))
  have HB4 := Lib.hid (HB3.out.setCell (p := ⟨w.heap.size, 1, none⟩) (Nat.le_refl _) (.int .i64 (x - 1048576)))
  obtain ⟨c0, p0, p1, -, -⟩ := HP4.out
  obtain ⟨-, u0, u1, u2, h0, h1, h2⟩ := HV4.out
  go_wp2_with fail
  clear p0 p1 v0 v1 v2 f0 f1 f2 u0 u1 u2 h0 h1 h2 HV3 HP3 HB3
  refine (gf_3 A c _ l n2 y n3 0 _ (HR.out.keep HB4.out) rfl E3.out HY.out).mono ?_
  rintro e w4 ⟨rfl, hb4⟩
  have HV5' := Lib.hid (HV4.out.keep hb4)
  have HB5' := Lib.hid (below_on HB4.out hb4)
  clear hb4 HV4 HP4 HB4
  obtain ⟨b4, v0, v1, v2, f0, f1, f2⟩ := HV5'.out
  go_wp2_with fail
  clear v0 v1 v2 f0 f1 f2
  have HV5 := Lib.hid (HV5'.out.set2 (y - 1048576))
  have HB5 := Lib.hid (HB5'.out.setCell (p := ⟨w.heap.size, 2, none⟩) (Nat.le_refl _) (.int .i64 (y - 1048576)))
  refine (vmay_v 2 (x - 1048576) (y - 1048576) _ _ M'.out).mono ?_
  rintro e w6 ⟨rfl, hb6⟩
  have HV6 := Lib.hid (HV5.out.keep hb6)
  have HB6 := Lib.hid (below_on HB5.out hb6)
  clear hb6
  obtain ⟨b6, v0, v1, v2, f0, f1, f2⟩ := HV6.out
  go_wp2_with fail
  exact bodyPost_ret (v := .tuple #[.agg #[.int .u8 0, .int .i64 0, .int .i64 0], .int .i64 0, .int .i64 30]) (by simp [results, Tryd.results19, go_sem, v0, v1, v2]) rfl ⟨rfl, (below_set2 HB6.out (by simp) (by simp) _ _).setCell (by simp) _⟩
set_option maxRecDepth 100000 in
set_option maxHeartbeats 2000000 in
/-- A pair. -/
theorem vr_8 (A : Option Addr) (c : Nat) (l : List Int) (p : Int) (n1 x n2 y n3 : Int) (w : World) (hr : Rd w A c l) (hw : GW w) (h1 : getV l p 1 = 2 ∧ getN l p 1 = n1 ∧ getE l p 1 = 0) (h2 : getV l n1 3 = x ∧ getN l n1 3 = n2 ∧ getE l n1 3 = 0) (hx : 0 ≤ x ∧ x < 16777216) (h3 : getV l n2 3 = y ∧ getN l n2 3 = n3 ∧ getE l n2 3 = 0) (hy : 0 ≤ y ∧ y < 16777216) (hm : mayB 2 (x - 1048576) (y - 1048576) = true) : Calls Tryd.prog 19 #[.slice A l.length c, .int .i64 p] w fun e w' => e = .returned (.tuple #[.agg #[.int .u8 2, .int .i64 (x - 1048576), .int .i64 (y - 1048576)], .int .i64 n3, .int .i64 0]) ∧ Below w.heap.size w w' := by
  have HR := Lib.hid hr
  have HG := Lib.hid hw
  clear hr hw
  have M : Hid (mayB 2 0 0 = true) := by simp [Hid, mayB, okB_0]
  have E1 := Lib.hid h1
  have E2 := Lib.hid h2
  have HX := Lib.hid hx
  clear h1 h2 hx
  have E3 := Lib.hid h3
  have HY := Lib.hid hy
  have M' := Lib.hid hm
  clear h3 hy hm
  have x1 := HX.out.1
  have x2 := HX.out.2
  have y1 := HY.out.1
  have y2 := HY.out.2
  go_enter Tryd.func19, Tryd.ntmps19
  go_wp2_with fail
  refine (get_any A c l p 1 _ (HR.out.alloc _)).mono ?_
  rintro e w1 ⟨rfl, hb1⟩
  rw [E1.out.1, E1.out.2.1, E1.out.2.2]
  have HV1 := Lib.hid ((Vl.new w 0 0 0).keep hb1)
  have HB1 := Lib.hid (below1 hb1)
  clear hb1 E1
  obtain ⟨b0, v0, v1, v2, f0, f1, f2⟩ := HV1.out
  go_wp2_with fail
  clear v0 v1 v2 f0 f1 f2
  refine (vmay_v 2 0 0 _ _ M.out).mono ?_
  rintro e w2 ⟨rfl, hb2⟩
  have HV2 := Lib.hid ((HV1.out.set0 2).keep hb2)
  have HB2 := Lib.hid (below_on (HB1.out.setCell (p := ⟨w.heap.size, 0, none⟩) (Nat.le_refl _) (.int .u8 2)) hb2)
  clear hb2 HV1 HB1 b0
  obtain ⟨b0, v0, v1, v2, f0, f1, f2⟩ := HV2.out
  obtain ⟨g0, g1, g2, g3, g4, g5⟩ := HG.out.keep HB2.out
  go_wp2_with fail
  clear g0 g1 g2 g3 g4 g5 v0 v1 v2 f0 f1 f2
  refine (gf_3 A c _ l n1 x n2 0 _ (HR.out.keep (below_on HB2.out new1)) rfl E2.out HX.out).mono ?_
  rintro e w3 ⟨rfl, hb3⟩
  have HP3 := Lib.hid ((P2.new w2 3 3 45).keep hb3)
  have HV3 := Lib.hid ((HV2.out.alloc _).keep hb3)
  have HB3 := Lib.hid (below_on HB2.out (below1 hb3))
  have hne : w.heap.size ≠ w2.heap.size := Nat.ne_of_lt b0
  have HN := Lib.hid hne
  clear hb3 HV2 HB2 b0 hne
  obtain ⟨b0, v0, v1, v2, f0, f1, f2⟩ := HV3.out
  go_upto_region 11 with (fail)
  have HV4 := Lib.hid (HV3.out.set1 (x - 1048576))
  have HP4 := Lib.hid (HP3.out.other (p := ⟨w.heap.size, 1, none⟩) HN.out (.int .i64 (x - 1048576)))
  have HB4 := Lib.hid (HB3.out.setCell (p := ⟨w.heap.size, 1, none⟩) (Nat.le_refl _) (.int .i64 (x - 1048576)))
  obtain ⟨c0, p0, p1, -, -⟩ := HP4.out
  obtain ⟨-, u0, u1, u2, h0, h1, h2⟩ := HV4.out
  go_wp2_with fail
  clear p0 p1 v0 v1 v2 f0 f1 f2 u0 u1 u2 h0 h1 h2 HV3 HP3 HB3
  refine (gf_3 A c _ l n2 y n3 0 _ (HR.out.keep HB4.out) rfl E3.out HY.out).mono ?_
  rintro e w4 ⟨rfl, hb4⟩
  have HV5' := Lib.hid (HV4.out.keep hb4)
  have HB5' := Lib.hid (below_on HB4.out hb4)
  clear hb4 HV4 HP4 HB4
  obtain ⟨b4, v0, v1, v2, f0, f1, f2⟩ := HV5'.out
  go_wp2_with fail
  clear v0 v1 v2 f0 f1 f2
  have HV5 := Lib.hid (HV5'.out.set2 (y - 1048576))
  have HB5 := Lib.hid (HB5'.out.setCell (p := ⟨w.heap.size, 2, none⟩) (Nat.le_refl _) (.int .i64 (y - 1048576)))
  refine (vmay_v 2 (x - 1048576) (y - 1048576) _ _ M'.out).mono ?_
  rintro e w6 ⟨rfl, hb6⟩
  have HV6 := Lib.hid (HV5.out.keep hb6)
  have HB6 := Lib.hid (below_on HB5.out hb6)
  clear hb6
  obtain ⟨b6, v0, v1, v2, f0, f1, f2⟩ := HV6.out
  go_wp2_with fail
  exact bodyPost_ret (v := .tuple #[.agg #[.int .u8 2, .int .i64 (x - 1048576), .int .i64 (y - 1048576)], .int .i64 n3, .int .i64 0]) (by simp [results, Tryd.results19, go_sem, v0, v1, v2]) rfl ⟨rfl, (below_set2 HB6.out (by simp) (by simp) _ _).setCell (by simp) _⟩
end Go.Proofs.YtndgiehipajghaaDoor
