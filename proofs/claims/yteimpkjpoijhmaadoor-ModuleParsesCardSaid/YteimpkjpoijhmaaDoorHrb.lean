/-
  Layer 7: what the reference's Bytes answers.
-/
import Derived.Test.YteimpkjpoijhmaaDoorHrf
import Derived.Test.YteimpkjpoijhmaaDoorHo
namespace Go.Proofs.YteimpkjpoijhmaaDoor
open Go.RowKit
set_option maxRecDepth 100000
set_option linter.unusedSimpArgs false
set_option linter.unusedVariables false

theorem r7bytes_f (x : Mc) (m : Mh) (w : World) (hx : Hd w x m) (hv : mM m = false) : Calls Tryd.prog 29 #[mv x m] w fun e w' => e = .returned (.tuple #[.slice none 0 0, .int .i64 70]) ∧ Below w.heap.size w w' := by
  have S0 := Lib.hid (((Sx.start w).add (fH x m) hx).mkM x m)
  clear hx
  obtain ⟨z0, z1, z2, z3, z4, z5, z6, z7, z8⟩ := S0.out.2.1
  have P1 := Lib.hid (r7may_v x m false _ S0.out.2.2.1 hv)
  clear hv
  go_enter Tryd.func29, Tryd.ntmps29
  go_wp2_with fail
  refine P1.out.mono ?_
  rintro e w1 ⟨rfl, hb1⟩
  have S1 := Lib.hid (S0.out.call hb1)
  clear hb1 P1 S0 z0 z1 z2 z3 z4 z5 z6 z7 z8
  go_wp2_with fail
  go_ret2
  exact ⟨rfl, S1.out.1⟩
set_option maxHeartbeats 4000000 in
theorem r7bytes_t (x : Mc) (m : Mh) (w : World) (hx : Hd w x m) (hv : mM m = true) : Calls Tryd.prog 29 #[mv x m] w fun e w' => ∃ A c, e = .returned (.tuple #[.slice A (mL m).length c, .int .i64 0]) ∧
    w'.ownsRow w.heap.size 5 1 (.slice A (mL m).length c) (mL m).length (cel (mL m)) ∧ Below w.heap.size w w' := by
  obtain ⟨i0, hi, hz0, hz1, hz2⟩ := info_parts Tryd.info5
  have hmm := mM_iff.1 hv
  obtain ⟨hm1, hm2, -, -, ⟨hr1, hr2⟩, ⟨hf1, hf2⟩, ⟨hs1, hs2⟩, hh1, hh2⟩ := hmm
  have HL : Hid (mL m = ((m.a.length : Int) :: m.a) ++ (((m.l.length : Int) :: m.l) ++ ([m.r, fl m.q] ++ (digs m.f 3 ++ (digs m.s 2 ++ digs m.h 2))))) := by rw [Hid, mL, if_pos hv]
  have PF : Hid (putE 3 m.f = 0 ∧ putL 3 m.f = digs m.f 3) := put_yes (k := 3) (by omega) (by omega) (by omega) (by rw [show p256 3 = 16777216 by decide]; omega)
  have PS : Hid (putE 2 m.s = 0 ∧ putL 2 m.s = digs m.s 2) := put_yes (k := 2) (by omega) (by omega) (by omega) (by rw [show p256 2 = 65536 by decide]; omega)
  have PH : Hid (putE 2 m.h = 0 ∧ putL 2 m.h = digs m.h 2) := put_yes (k := 2) (by omega) (by omega) (by omega) (by rw [show p256 2 = 65536 by decide]; omega)
  have S0 := Lib.hid (((Sx.start w).add (fH x m) hx).mkM x m)
  clear hx
  obtain ⟨z0, z1, z2, z3, z4, z5, z6, z7, z8⟩ := S0.out.2.1
  have P1 := Lib.hid (r7may_v x m true _ S0.out.2.2.1 hv)
  clear hv
  have hma : (m.a.length : Int) % 256 = m.a.length := by omega
  have hml : (m.l.length : Int) % 256 = m.l.length := by omega
  go_enter Tryd.func29, Tryd.ntmps29
  go_wp2_with fail
  refine P1.out.mono ?_
  rintro e w1 ⟨rfl, hb1⟩
  have S1 := Lib.hid (S0.out.call hb1)
  clear hb1 P1 S0 z0 z1 z2 z3 z4 z5 z6 z7 z8
  obtain ⟨z0, z1, z2, z3, z4, z5, z6, z7, z8⟩ := S1.out.2.1
  have HO1 : Hid ((w1.alloc (.cells #[.int .u8 m.a.length] 5)).ownsRow w1.heap.size 5 1 (.slice (some ⟨w1.heap.size, 0, none⟩) 1 1) 1 (cel [(m.a.length : Int)])) := World.ownsRow_lit (base := w1.heap.size) (e := 5) (size := 1) w1 #[.int .u8 m.a.length] 1 (Nat.le_refl _) (by unfold maxLen; simp) (by simp)
  have HB1 : Hid (Below w1.heap.size w1 (w1.alloc (.cells #[.int .u8 m.a.length] 5))) := new1
  go_upto_region 4 with (fail)
  clear z0 z1 z2 z3 z4 z5 z6 z7 z8
  generalize w1.alloc (.cells #[.int .u8 m.a.length] 5) = W1 at HO1 HB1 ⊢
  obtain ⟨z0, z1, z2, z3, z4, z5, z6, z7, z8⟩ := (S1.out.call HB1.out).2.1
  go_wp2_with (at_builtin; refine wpList_append_rd _ rfl _ _ 28 rfl w1.heap.size 5 i0 Tryd.underlying28 hi hz0 hz1 hz2 _ 1 [(m.a.length : Int)] rfl HO1.out x.A m.a.length x.c m.a rfl ((S1.out.call HB1.out).2.2.1.1) rfl (by omega) HB1.out.size ?_)
  intro A2 c2 W2 ho hg hb hor
  obtain ⟨X2, hX2⟩ : ∃ X, (m.a.length : Int) :: m.a = X := ⟨_, rfl⟩
  obtain ⟨n2, hn2⟩ : ∃ n, 1 + m.a.length = n := ⟨_, rfl⟩
  rw [hX2, hn2] at ho
  rw [hn2] at hor
  rw [hn2]
  have HX2 : Hid (X2 = (m.a.length : Int) :: m.a ∧ n2 = 1 + m.a.length) := ⟨hX2.symm, hn2.symm⟩
  have bn2 : n2 ≤ 1000 + 2 * 20 := by omega
  have HO2 := Lib.hid ho
  have HB2 := Lib.hid (HB1.out.trans hb)
  clear ho hg hb hor HO1 HB1 hX2 hn2
  clear z0 z1 z2 z3 z4 z5 z6 z7 z8
  go_upto_region 5 with (fail)
  obtain ⟨z0, z1, z2, z3, z4, z5, z6, z7, z8⟩ := (S1.out.call HB2.out).2.1
  have HOx := Lib.hid (own_below (B := w1.heap.size) HO2.out (new1 (a := .cells #[.int .u8 ((m.l.length : Int))] 5)) (Nat.le_refl _))
  have HRx := Lib.hid (rd_one W2 ((m.l.length : Int)) (by omega))
  have HBx : Hid (Below w1.heap.size w1 (W2.alloc (.cells #[.int .u8 ((m.l.length : Int))] 5))) := HB2.out.alloc HB2.out.size _
  clear HO2 HB2
  go_wp2_with (at_builtin; refine wpList_append_rd _ rfl _ _ 28 rfl w1.heap.size 5 i0 Tryd.underlying28 hi hz0 hz1 hz2 _ n2 X2 rfl HOx.out _ 1 1 [(m.l.length : Int)] rfl HRx.out rfl (by omega) HBx.out.size ?_)
  intro A3 c3 W3 ho hg hb _
  obtain ⟨X3, hX3⟩ : ∃ X, X2 ++ [(m.l.length : Int)] = X := ⟨_, rfl⟩
  obtain ⟨n3, hn3⟩ : ∃ n, n2 + 1 = n := ⟨_, rfl⟩
  rw [hX3, hn3] at ho
  rw [hn3]
  have HX3 : Hid (X3 = X2 ++ [(m.l.length : Int)] ∧ n3 = n2 + 1) := ⟨hX3.symm, hn3.symm⟩
  have bn3 : n3 ≤ 1000 + 3 * 20 := by omega
  have HO3 := Lib.hid ho
  have HB3 := Lib.hid (HBx.out.trans hb)
  clear ho hg hb HOx HRx HBx hX3 hn3
  clear z0 z1 z2 z3 z4 z5 z6 z7 z8
  go_upto_region 6 with (fail)
  obtain ⟨z0, z1, z2, z3, z4, z5, z6, z7, z8⟩ := (S1.out.call HB3.out).2.1
  go_wp2_with (at_builtin; refine wpList_append_rd _ rfl _ _ 28 rfl w1.heap.size 5 i0 Tryd.underlying28 hi hz0 hz1 hz2 _ n3 X3 rfl HO3.out x.B m.l.length x.d m.l rfl ((S1.out.call HB3.out).2.2.1.2.1) rfl (by omega) HB3.out.size ?_)
  intro A4 c4 W4 ho hg hb hor
  obtain ⟨X4, hX4⟩ : ∃ X, X3 ++ m.l = X := ⟨_, rfl⟩
  obtain ⟨n4, hn4⟩ : ∃ n, n3 + m.l.length = n := ⟨_, rfl⟩
  rw [hX4, hn4] at ho
  rw [hn4] at hor
  rw [hn4]
  have HX4 : Hid (X4 = X3 ++ m.l ∧ n4 = n3 + m.l.length) := ⟨hX4.symm, hn4.symm⟩
  have bn4 : n4 ≤ 1000 + 4 * 20 := by omega
  have HO4 := Lib.hid ho
  have HB4 := Lib.hid (HB3.out.trans hb)
  clear ho hg hb hor HO3 HB3 hX4 hn4
  clear z0 z1 z2 z3 z4 z5 z6 z7 z8
  go_upto_region 7 with (fail)
  obtain ⟨z0, z1, z2, z3, z4, z5, z6, z7, z8⟩ := (S1.out.call HB4.out).2.1
  have HOx := Lib.hid (own_below (B := w1.heap.size) HO4.out (new1 (a := .cells #[.int .u8 (m.r)] 5)) (Nat.le_refl _))
  have HRx := Lib.hid (rd_one W4 (m.r) (by omega))
  have HBx : Hid (Below w1.heap.size w1 (W4.alloc (.cells #[.int .u8 (m.r)] 5))) := HB4.out.alloc HB4.out.size _
  clear HO4 HB4
  go_wp2_with (at_builtin; refine wpList_append_rd _ rfl _ _ 28 rfl w1.heap.size 5 i0 Tryd.underlying28 hi hz0 hz1 hz2 _ n4 X4 rfl HOx.out _ 1 1 [m.r] rfl HRx.out rfl (by omega) HBx.out.size ?_)
  intro A5 c5 W5 ho hg hb _
  obtain ⟨X5, hX5⟩ : ∃ X, X4 ++ [m.r] = X := ⟨_, rfl⟩
  obtain ⟨n5, hn5⟩ : ∃ n, n4 + 1 = n := ⟨_, rfl⟩
  rw [hX5, hn5] at ho
  rw [hn5]
  have HX5 : Hid (X5 = X4 ++ [m.r] ∧ n5 = n4 + 1) := ⟨hX5.symm, hn5.symm⟩
  have bn5 : n5 ≤ 1000 + 5 * 20 := by omega
  have HO5 := Lib.hid ho
  have HB5 := Lib.hid (HBx.out.trans hb)
  clear ho hg hb HOx HRx HBx hX5 hn5
  clear z0 z1 z2 z3 z4 z5 z6 z7 z8
  go_upto_region 8 with (fail)
  cases hq : m.q with
  | true =>
    have HQ : Hid (fl m.q = 1) := by rw [Hid, hq]; rfl
    obtain ⟨z0, z1, z2, z3, z4, z5, z6, z7, z8⟩ := (S1.out.call HB5.out).2.1
    rw [hq] at z4
    have HOx := Lib.hid (own_below (B := w1.heap.size) HO5.out (new1 (a := .cells #[.int .u8 (1)] 5)) (Nat.le_refl _))
    have HRx := Lib.hid (rd_one W5 (1) (by omega))
    have HBx : Hid (Below w1.heap.size w1 (W5.alloc (.cells #[.int .u8 (1)] 5))) := HB5.out.alloc HB5.out.size _
    clear HO5 HB5
    go_wp2_with (at_builtin; refine wpList_append_rd _ rfl _ _ 28 rfl w1.heap.size 5 i0 Tryd.underlying28 hi hz0 hz1 hz2 _ n5 X5 rfl HOx.out _ 1 1 [1] rfl HRx.out rfl (by omega) HBx.out.size ?_)
    intro A6 c6 W6 ho hg hb _
    obtain ⟨X6, hX6⟩ : ∃ X, X5 ++ [1] = X := ⟨_, rfl⟩
    obtain ⟨n6, hn6⟩ : ∃ n, n5 + 1 = n := ⟨_, rfl⟩
    rw [hX6, hn6] at ho
    rw [hn6]
    have HX6 : Hid (X6 = X5 ++ [1] ∧ n6 = n5 + 1) := ⟨hX6.symm, hn6.symm⟩
    have bn6 : n6 ≤ 1000 + 6 * 20 := by omega
    have HO6 := Lib.hid ho
    have HB6 := Lib.hid (HBx.out.trans hb)
    clear ho hg hb HOx HRx HBx hX6 hn6
    clear z0 z1 z2 z3 z4 z5 z6 z7 z8
    go_upto_region 11 with (fail)
    obtain ⟨lo, hlo⟩ : ∃ lo, W6.heap.size = lo := ⟨_, rfl⟩
    have HloW6 : lo ≤ W6.heap.size := by omega
    have OBl : Hid (∀ b, (Value.slice A6 n6 c6).ownBlock = some b → b < lo) := fun b h => by have := (HO6.out.lt b h).2; omega
    clear hlo hq
    obtain ⟨z0, z1, z2, z3, z4, z5, z6, z7, z8⟩ := (S1.out.call HB6.out).2.1
    go_wp2_with fail
    refine (rput_any 3 m.f _ (by omega)).mono ?_
    rintro e W7 ⟨AF, cF, rfl, ho, hb⟩
    rw [PF.out.1, PF.out.2, length_digs]
    rw [PF.out.2, length_digs] at ho
    have HRF : Hid (Rd W7 AF cF (digs m.f 3) ∧ ∀ ad, AF = some ad → lo ≤ ad.block) := by
      refine ⟨own_rd ho (byt_digs _ _), fun ad h => ?_⟩
      obtain ⟨g, hg1, hg2⟩ := own_some ho (by decide)
      rw [hg1] at h
      obtain rfl := Option.some.inj h
      have := HloW6
      show lo ≤ g
      omega
    have HloW7 : lo ≤ W7.heap.size := Nat.le_trans HloW6 hb.size
    have HOn := Lib.hid (own_below HO6.out hb (Nat.le_refl _))
    have HBn := Lib.hid (below_on HB6.out hb)
    clear ho hb HO6 HB6 
    clear z0 z1 z2 z3 z4 z5 z6 z7 z8
    have HO6 := HOn
    have HB6 := HBn
    clear HOn HBn
    go_upto_region 12 with (fail)
    obtain ⟨z0, z1, z2, z3, z4, z5, z6, z7, z8⟩ := (S1.out.call HB6.out).2.1
    go_wp2_with fail
    refine (rput_any 2 m.s _ (by omega)).mono ?_
    rintro e W8 ⟨AS, cS, rfl, ho, hb⟩
    rw [PS.out.1, PS.out.2, length_digs]
    rw [PS.out.2, length_digs] at ho
    have HRS : Hid (Rd W8 AS cS (digs m.s 2) ∧ ∀ ad, AS = some ad → lo ≤ ad.block) := by
      refine ⟨own_rd ho (byt_digs _ _), fun ad h => ?_⟩
      obtain ⟨g, hg1, hg2⟩ := own_some ho (by decide)
      rw [hg1] at h
      obtain rfl := Option.some.inj h
      have := HloW7
      show lo ≤ g
      omega
    have HloW8 : lo ≤ W8.heap.size := Nat.le_trans HloW7 hb.size
    have HOn := Lib.hid (own_below HO6.out hb (Nat.le_refl _))
    have HBn := Lib.hid (below_on HB6.out hb)
    have HRFn : Hid (Rd W8 AF cF (digs m.f 3) ∧ ∀ ad, AF = some ad → lo ≤ ad.block) := ⟨HRF.out.1.keep hb, HRF.out.2⟩
    clear ho hb HO6 HB6 HRF
    clear z0 z1 z2 z3 z4 z5 z6 z7 z8
    have HO6 := HOn
    have HB6 := HBn
    clear HOn HBn
    have HRF := HRFn
    clear HRFn
    go_upto_region 13 with (fail)
    obtain ⟨z0, z1, z2, z3, z4, z5, z6, z7, z8⟩ := (S1.out.call HB6.out).2.1
    go_wp2_with fail
    refine (rput_any 2 m.h _ (by omega)).mono ?_
    rintro e W9 ⟨AH, cH, rfl, ho, hb⟩
    rw [PH.out.1, PH.out.2, length_digs]
    rw [PH.out.2, length_digs] at ho
    have HRH : Hid (Rd W9 AH cH (digs m.h 2) ∧ ∀ ad, AH = some ad → lo ≤ ad.block) := by
      refine ⟨own_rd ho (byt_digs _ _), fun ad h => ?_⟩
      obtain ⟨g, hg1, hg2⟩ := own_some ho (by decide)
      rw [hg1] at h
      obtain rfl := Option.some.inj h
      have := HloW8
      show lo ≤ g
      omega
    have HloW9 : lo ≤ W9.heap.size := Nat.le_trans HloW8 hb.size
    have HOn := Lib.hid (own_below HO6.out hb (Nat.le_refl _))
    have HBn := Lib.hid (below_on HB6.out hb)
    have HRFn : Hid (Rd W9 AF cF (digs m.f 3) ∧ ∀ ad, AF = some ad → lo ≤ ad.block) := ⟨HRF.out.1.keep hb, HRF.out.2⟩
    have HRSn : Hid (Rd W9 AS cS (digs m.s 2) ∧ ∀ ad, AS = some ad → lo ≤ ad.block) := ⟨HRS.out.1.keep hb, HRS.out.2⟩
    clear ho hb HO6 HB6 HRF HRS
    clear z0 z1 z2 z3 z4 z5 z6 z7 z8
    have HO6 := HOn
    have HB6 := HBn
    clear HOn HBn
    have HRF := HRFn
    clear HRFn
    have HRS := HRSn
    clear HRSn
    go_upto_region 14 with (fail)
    go_wp2_with (at_builtin; refine wpList_append_rd _ rfl _ _ 28 rfl w1.heap.size 5 i0 Tryd.underlying28 hi hz0 hz1 hz2 _ n6 X6 rfl HO6.out AF 3 cF (digs m.f 3) rfl (HRF.out.1) (length_digs _ _).symm (by omega) HB6.out.size ?_)
    intro A7 c7 W10 ho hg hb hor
    obtain ⟨X7, hX7⟩ : ∃ X, X6 ++ (digs m.f 3) = X := ⟨_, rfl⟩
    obtain ⟨n7, hn7⟩ : ∃ n, n6 + 3 = n := ⟨_, rfl⟩
    rw [hX7, hn7] at ho
    rw [hn7] at hor
    rw [hn7]
    have HX7 : Hid (X7 = X6 ++ (digs m.f 3) ∧ n7 = n6 + 3) := ⟨hX7.symm, hn7.symm⟩
    have bn7 : n7 ≤ 1000 + 7 * 20 := by omega
    have HO7 := Lib.hid ho
    have HB7 := Lib.hid (HB6.out.trans hb)
    have HS2 : Hid (Rd W10 AS cS (digs m.s 2) ∧ ∀ ad, AS = some ad → lo ≤ ad.block) := ⟨HRS.out.1.grown hg (fun ad h0 _ e => by have := OBl.out _ e.symm; have := HRS.out.2 ad h0; omega), HRS.out.2⟩
    have HH2 : Hid (Rd W10 AH cH (digs m.h 2) ∧ ∀ ad, AH = some ad → lo ≤ ad.block) := ⟨HRH.out.1.grown hg (fun ad h0 _ e => by have := OBl.out _ e.symm; have := HRH.out.2 ad h0; omega), HRH.out.2⟩
    have HH3 : Hid (∀ ad, AH = some ad → ad.block < W9.heap.size) := fun ad h0 => rd_lt HRH.out.1 h0 (by rw [length_digs]; decide)
    have OB2 : Hid (∀ b, (Value.slice A7 n7 c7).ownBlock = some b → b < lo ∨ W9.heap.size ≤ b) := fun b h => by
      rcases hor with e | e
      · rw [e] at h
        exact .inl (OBl.out b h)
      · rw [e] at h
        injection h with h
        exact .inr (by omega)
    clear HRF HRS HRH
    clear ho hg hb hor HO6 HB6 hX7 hn7
    go_upto_region 15 with (fail)
    go_wp2_with (at_builtin; refine wpList_append_rd _ rfl _ _ 28 rfl w1.heap.size 5 i0 Tryd.underlying28 hi hz0 hz1 hz2 _ n7 X7 rfl HO7.out AS 2 cS (digs m.s 2) rfl (HS2.out.1) (length_digs _ _).symm (by omega) HB7.out.size ?_)
    intro A8 c8 W11 ho hg hb hor
    obtain ⟨X8, hX8⟩ : ∃ X, X7 ++ (digs m.s 2) = X := ⟨_, rfl⟩
    obtain ⟨n8, hn8⟩ : ∃ n, n7 + 2 = n := ⟨_, rfl⟩
    rw [hX8, hn8] at ho
    rw [hn8] at hor
    rw [hn8]
    have HX8 : Hid (X8 = X7 ++ (digs m.s 2) ∧ n8 = n7 + 2) := ⟨hX8.symm, hn8.symm⟩
    have bn8 : n8 ≤ 1000 + 8 * 20 := by omega
    have HO8 := Lib.hid ho
    have HB8 := Lib.hid (HB7.out.trans hb)
    have HH4 : Hid (Rd W11 AH cH (digs m.h 2)) := HH2.out.1.grown hg (fun ad h0 _ e => by
      have := OB2.out _ e.symm
      have := HH2.out.2 ad h0
      have := HH3.out ad h0
      omega)
    clear HS2 HH2 HH3 OB2 OBl
    clear ho hg hb hor HO7 HB7 hX8 hn8
    go_upto_region 16 with (fail)
    go_wp2_with (at_builtin; refine wpList_append_rd _ rfl _ _ 28 rfl w1.heap.size 5 i0 Tryd.underlying28 hi hz0 hz1 hz2 _ n8 X8 rfl HO8.out AH 2 cH (digs m.h 2) rfl (HH4.out) (length_digs _ _).symm (by omega) HB8.out.size ?_)
    intro A9 c9 W12 ho hg hb hor
    obtain ⟨X9, hX9⟩ : ∃ X, X8 ++ (digs m.h 2) = X := ⟨_, rfl⟩
    obtain ⟨n9, hn9⟩ : ∃ n, n8 + 2 = n := ⟨_, rfl⟩
    rw [hX9, hn9] at ho
    rw [hn9] at hor
    rw [hn9]
    have HX9 : Hid (X9 = X8 ++ (digs m.h 2) ∧ n9 = n8 + 2) := ⟨hX9.symm, hn9.symm⟩
    have bn9 : n9 ≤ 1000 + 9 * 20 := by omega
    have HO9 := Lib.hid ho
    have HB9 := Lib.hid (HB8.out.trans hb)
    clear HH4
    clear ho hg hb hor HO8 HB8 hX9 hn9
    go_wp2_with fail
    go_ret2
    have hXL : X9 = mL m := by
      rw [HX9.out.1, HX8.out.1, HX7.out.1, HX6.out.1, HX5.out.1, HX4.out.1, HX3.out.1, HX2.out.1, HL.out, HQ.out]
      simp
    have hnL : n9 = (mL m).length := by
      have := HO9.out.1
      rw [length_cel, hXL] at this
      omega
    subst hXL hnL
    exact ⟨A9, c9, rfl, own_base HO9.out S1.out.1.size, below_on S1.out.1 HB9.out⟩
  | false =>
    have HQ : Hid (fl m.q = 0) := by rw [Hid, hq]; rfl
    obtain ⟨z0, z1, z2, z3, z4, z5, z6, z7, z8⟩ := (S1.out.call HB5.out).2.1
    rw [hq] at z4
    have HOx := Lib.hid (own_below (B := w1.heap.size) HO5.out (new1 (a := .cells #[.int .u8 (0)] 5)) (Nat.le_refl _))
    have HRx := Lib.hid (rd_one W5 (0) (by omega))
    have HBx : Hid (Below w1.heap.size w1 (W5.alloc (.cells #[.int .u8 (0)] 5))) := HB5.out.alloc HB5.out.size _
    clear HO5 HB5
    go_wp2_with (at_builtin; refine wpList_append_rd _ rfl _ _ 28 rfl w1.heap.size 5 i0 Tryd.underlying28 hi hz0 hz1 hz2 _ n5 X5 rfl HOx.out _ 1 1 [0] rfl HRx.out rfl (by omega) HBx.out.size ?_)
    intro A6 c6 W6 ho hg hb _
    obtain ⟨X6, hX6⟩ : ∃ X, X5 ++ [0] = X := ⟨_, rfl⟩
    obtain ⟨n6, hn6⟩ : ∃ n, n5 + 1 = n := ⟨_, rfl⟩
    rw [hX6, hn6] at ho
    rw [hn6]
    have HX6 : Hid (X6 = X5 ++ [0] ∧ n6 = n5 + 1) := ⟨hX6.symm, hn6.symm⟩
    have bn6 : n6 ≤ 1000 + 6 * 20 := by omega
    have HO6 := Lib.hid ho
    have HB6 := Lib.hid (HBx.out.trans hb)
    clear ho hg hb HOx HRx HBx hX6 hn6
    clear z0 z1 z2 z3 z4 z5 z6 z7 z8
    go_upto_region 11 with (fail)
    obtain ⟨lo, hlo⟩ : ∃ lo, W6.heap.size = lo := ⟨_, rfl⟩
    have HloW6 : lo ≤ W6.heap.size := by omega
    have OBl : Hid (∀ b, (Value.slice A6 n6 c6).ownBlock = some b → b < lo) := fun b h => by have := (HO6.out.lt b h).2; omega
    clear hlo hq
    obtain ⟨z0, z1, z2, z3, z4, z5, z6, z7, z8⟩ := (S1.out.call HB6.out).2.1
    go_wp2_with fail
    refine (rput_any 3 m.f _ (by omega)).mono ?_
    rintro e W7 ⟨AF, cF, rfl, ho, hb⟩
    rw [PF.out.1, PF.out.2, length_digs]
    rw [PF.out.2, length_digs] at ho
    have HRF : Hid (Rd W7 AF cF (digs m.f 3) ∧ ∀ ad, AF = some ad → lo ≤ ad.block) := by
      refine ⟨own_rd ho (byt_digs _ _), fun ad h => ?_⟩
      obtain ⟨g, hg1, hg2⟩ := own_some ho (by decide)
      rw [hg1] at h
      obtain rfl := Option.some.inj h
      have := HloW6
      show lo ≤ g
      omega
    have HloW7 : lo ≤ W7.heap.size := Nat.le_trans HloW6 hb.size
    have HOn := Lib.hid (own_below HO6.out hb (Nat.le_refl _))
    have HBn := Lib.hid (below_on HB6.out hb)
    clear ho hb HO6 HB6 
    clear z0 z1 z2 z3 z4 z5 z6 z7 z8
    have HO6 := HOn
    have HB6 := HBn
    clear HOn HBn
    go_upto_region 12 with (fail)
    obtain ⟨z0, z1, z2, z3, z4, z5, z6, z7, z8⟩ := (S1.out.call HB6.out).2.1
    go_wp2_with fail
    refine (rput_any 2 m.s _ (by omega)).mono ?_
    rintro e W8 ⟨AS, cS, rfl, ho, hb⟩
    rw [PS.out.1, PS.out.2, length_digs]
    rw [PS.out.2, length_digs] at ho
    have HRS : Hid (Rd W8 AS cS (digs m.s 2) ∧ ∀ ad, AS = some ad → lo ≤ ad.block) := by
      refine ⟨own_rd ho (byt_digs _ _), fun ad h => ?_⟩
      obtain ⟨g, hg1, hg2⟩ := own_some ho (by decide)
      rw [hg1] at h
      obtain rfl := Option.some.inj h
      have := HloW7
      show lo ≤ g
      omega
    have HloW8 : lo ≤ W8.heap.size := Nat.le_trans HloW7 hb.size
    have HOn := Lib.hid (own_below HO6.out hb (Nat.le_refl _))
    have HBn := Lib.hid (below_on HB6.out hb)
    have HRFn : Hid (Rd W8 AF cF (digs m.f 3) ∧ ∀ ad, AF = some ad → lo ≤ ad.block) := ⟨HRF.out.1.keep hb, HRF.out.2⟩
    clear ho hb HO6 HB6 HRF
    clear z0 z1 z2 z3 z4 z5 z6 z7 z8
    have HO6 := HOn
    have HB6 := HBn
    clear HOn HBn
    have HRF := HRFn
    clear HRFn
    go_upto_region 13 with (fail)
    obtain ⟨z0, z1, z2, z3, z4, z5, z6, z7, z8⟩ := (S1.out.call HB6.out).2.1
    go_wp2_with fail
    refine (rput_any 2 m.h _ (by omega)).mono ?_
    rintro e W9 ⟨AH, cH, rfl, ho, hb⟩
    rw [PH.out.1, PH.out.2, length_digs]
    rw [PH.out.2, length_digs] at ho
    have HRH : Hid (Rd W9 AH cH (digs m.h 2) ∧ ∀ ad, AH = some ad → lo ≤ ad.block) := by
      refine ⟨own_rd ho (byt_digs _ _), fun ad h => ?_⟩
      obtain ⟨g, hg1, hg2⟩ := own_some ho (by decide)
      rw [hg1] at h
      obtain rfl := Option.some.inj h
      have := HloW8
      show lo ≤ g
      omega
    have HloW9 : lo ≤ W9.heap.size := Nat.le_trans HloW8 hb.size
    have HOn := Lib.hid (own_below HO6.out hb (Nat.le_refl _))
    have HBn := Lib.hid (below_on HB6.out hb)
    have HRFn : Hid (Rd W9 AF cF (digs m.f 3) ∧ ∀ ad, AF = some ad → lo ≤ ad.block) := ⟨HRF.out.1.keep hb, HRF.out.2⟩
    have HRSn : Hid (Rd W9 AS cS (digs m.s 2) ∧ ∀ ad, AS = some ad → lo ≤ ad.block) := ⟨HRS.out.1.keep hb, HRS.out.2⟩
    clear ho hb HO6 HB6 HRF HRS
    clear z0 z1 z2 z3 z4 z5 z6 z7 z8
    have HO6 := HOn
    have HB6 := HBn
    clear HOn HBn
    have HRF := HRFn
    clear HRFn
    have HRS := HRSn
    clear HRSn
    go_upto_region 14 with (fail)
    go_wp2_with (at_builtin; refine wpList_append_rd _ rfl _ _ 28 rfl w1.heap.size 5 i0 Tryd.underlying28 hi hz0 hz1 hz2 _ n6 X6 rfl HO6.out AF 3 cF (digs m.f 3) rfl (HRF.out.1) (length_digs _ _).symm (by omega) HB6.out.size ?_)
    intro A7 c7 W10 ho hg hb hor
    obtain ⟨X7, hX7⟩ : ∃ X, X6 ++ (digs m.f 3) = X := ⟨_, rfl⟩
    obtain ⟨n7, hn7⟩ : ∃ n, n6 + 3 = n := ⟨_, rfl⟩
    rw [hX7, hn7] at ho
    rw [hn7] at hor
    rw [hn7]
    have HX7 : Hid (X7 = X6 ++ (digs m.f 3) ∧ n7 = n6 + 3) := ⟨hX7.symm, hn7.symm⟩
    have bn7 : n7 ≤ 1000 + 7 * 20 := by omega
    have HO7 := Lib.hid ho
    have HB7 := Lib.hid (HB6.out.trans hb)
    have HS2 : Hid (Rd W10 AS cS (digs m.s 2) ∧ ∀ ad, AS = some ad → lo ≤ ad.block) := ⟨HRS.out.1.grown hg (fun ad h0 _ e => by have := OBl.out _ e.symm; have := HRS.out.2 ad h0; omega), HRS.out.2⟩
    have HH2 : Hid (Rd W10 AH cH (digs m.h 2) ∧ ∀ ad, AH = some ad → lo ≤ ad.block) := ⟨HRH.out.1.grown hg (fun ad h0 _ e => by have := OBl.out _ e.symm; have := HRH.out.2 ad h0; omega), HRH.out.2⟩
    have HH3 : Hid (∀ ad, AH = some ad → ad.block < W9.heap.size) := fun ad h0 => rd_lt HRH.out.1 h0 (by rw [length_digs]; decide)
    have OB2 : Hid (∀ b, (Value.slice A7 n7 c7).ownBlock = some b → b < lo ∨ W9.heap.size ≤ b) := fun b h => by
      rcases hor with e | e
      · rw [e] at h
        exact .inl (OBl.out b h)
      · rw [e] at h
        injection h with h
        exact .inr (by omega)
    clear HRF HRS HRH
    clear ho hg hb hor HO6 HB6 hX7 hn7
    go_upto_region 15 with (fail)
    go_wp2_with (at_builtin; refine wpList_append_rd _ rfl _ _ 28 rfl w1.heap.size 5 i0 Tryd.underlying28 hi hz0 hz1 hz2 _ n7 X7 rfl HO7.out AS 2 cS (digs m.s 2) rfl (HS2.out.1) (length_digs _ _).symm (by omega) HB7.out.size ?_)
    intro A8 c8 W11 ho hg hb hor
    obtain ⟨X8, hX8⟩ : ∃ X, X7 ++ (digs m.s 2) = X := ⟨_, rfl⟩
    obtain ⟨n8, hn8⟩ : ∃ n, n7 + 2 = n := ⟨_, rfl⟩
    rw [hX8, hn8] at ho
    rw [hn8] at hor
    rw [hn8]
    have HX8 : Hid (X8 = X7 ++ (digs m.s 2) ∧ n8 = n7 + 2) := ⟨hX8.symm, hn8.symm⟩
    have bn8 : n8 ≤ 1000 + 8 * 20 := by omega
    have HO8 := Lib.hid ho
    have HB8 := Lib.hid (HB7.out.trans hb)
    have HH4 : Hid (Rd W11 AH cH (digs m.h 2)) := HH2.out.1.grown hg (fun ad h0 _ e => by
      have := OB2.out _ e.symm
      have := HH2.out.2 ad h0
      have := HH3.out ad h0
      omega)
    clear HS2 HH2 HH3 OB2 OBl
    clear ho hg hb hor HO7 HB7 hX8 hn8
    go_upto_region 16 with (fail)
    go_wp2_with (at_builtin; refine wpList_append_rd _ rfl _ _ 28 rfl w1.heap.size 5 i0 Tryd.underlying28 hi hz0 hz1 hz2 _ n8 X8 rfl HO8.out AH 2 cH (digs m.h 2) rfl (HH4.out) (length_digs _ _).symm (by omega) HB8.out.size ?_)
    intro A9 c9 W12 ho hg hb hor
    obtain ⟨X9, hX9⟩ : ∃ X, X8 ++ (digs m.h 2) = X := ⟨_, rfl⟩
    obtain ⟨n9, hn9⟩ : ∃ n, n8 + 2 = n := ⟨_, rfl⟩
    rw [hX9, hn9] at ho
    rw [hn9] at hor
    rw [hn9]
    have HX9 : Hid (X9 = X8 ++ (digs m.h 2) ∧ n9 = n8 + 2) := ⟨hX9.symm, hn9.symm⟩
    have bn9 : n9 ≤ 1000 + 9 * 20 := by omega
    have HO9 := Lib.hid ho
    have HB9 := Lib.hid (HB8.out.trans hb)
    clear HH4
    clear ho hg hb hor HO8 HB8 hX9 hn9
    go_wp2_with fail
    go_ret2
    have hXL : X9 = mL m := by
      rw [HX9.out.1, HX8.out.1, HX7.out.1, HX6.out.1, HX5.out.1, HX4.out.1, HX3.out.1, HX2.out.1, HL.out, HQ.out]
      simp
    have hnL : n9 = (mL m).length := by
      have := HO9.out.1
      rw [length_cel, hXL] at this
      omega
    subst hXL hnL
    exact ⟨A9, c9, rfl, own_base HO9.out S1.out.1.size, below_on S1.out.1 HB9.out⟩
theorem r7bytes_v (x : Mc) (m : Mh) (w : World) (hx : Hd w x m) : Calls Tryd.prog 29 #[mv x m] w fun e w' => ∃ A c, e = .returned (.tuple #[.slice A (mL m).length c, .int .i64 (mE m)]) ∧
    w'.ownsRow w.heap.size 5 1 (.slice A (mL m).length c) (mL m).length (cel (mL m)) ∧ Below w.heap.size w w' := by
  cases h : mM m with
  | false =>
    refine (r7bytes_f x m w hx h).mono ?_
    rintro e w' ⟨rfl, hb⟩
    rw [show mL m = [] by rw [mL, if_neg (by rw [h]; decide)], show mE m = 70 by rw [mE, if_neg (by rw [h]; decide)]]
    exact ⟨none, 0, rfl, World.ownsRow_nil _ _ _ _, hb⟩
  | true =>
    rw [show mE m = 0 by rw [mE, if_pos h]]
    exact r7bytes_t x m w hx h
end Go.Proofs.YteimpkjpoijhmaaDoor
