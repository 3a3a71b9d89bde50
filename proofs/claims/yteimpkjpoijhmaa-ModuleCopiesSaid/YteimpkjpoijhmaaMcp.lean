/-
  Law ModuleCopies: what is done to a copy changes nothing of what was copied, nor the other way about.
-/
import Derived.Test.YteimpkjpoijhmaaRcp
import Derived.Test.YteimpkjpoijhmaaKlt
import Derived.Test.YteimpkjpoijhmaaSpo
import Derived.Test.YteimpkjpoijhmaaLm
namespace Go.Proofs.Yteimpkjpoijhmaa
open Go.RowKit
set_option maxRecDepth 100000
set_option linter.unusedSimpArgs false
set_option linter.unusedVariables false

abbrev fOw (lo hi : Nat) (y : Ma) (d : Md) : Fct := ⟨fun w => Ow w lo hi y d, fun _ _ h hb => h.keep hb⟩
theorem mcopyw (y : Ma) (d : Md) (w : World) (hq : Hq w y d) (hg : qG d = false) : Calls Try.prog 6 #[dv y d] w fun r w' => ∃ t, r = .returned (dv t d) ∧ Hq w' t d ∧ Ow w' w.heap.size w'.heap.size t d ∧ Below w.heap.size w w' := by
  obtain ⟨h1, h2, h3, h4⟩ := qG_bd hq hg
  exact mcopy_v y d w hq (by omega) (by omega) (by omega) (fun z hz => by have := h4 z hz; omega)
/-- All three copies. -/
def Cs8 (w wE : World) (W lo0 hi0 T3 la ha T4 lb hb T5 : Nat) (y t0 ta tb : Ma) (d : Md) : Prop :=
  Below w.heap.size w wE ∧ Db wE W y d ∧ (Hq wE t0 d ∧ Ow wE lo0 hi0 t0 d ∧ Db wE T3 t0 d) ∧ (Hq wE ta d ∧ Ow wE la ha ta d ∧ Db wE T4 ta d) ∧ (Hq wE tb d ∧ Ow wE lb hb tb d ∧ Db wE T5 tb d) ∧
  (w.heap.size = W ∧ W < lo0 ∧ lo0 ≤ hi0 ∧ hi0 ≤ T3 ∧ T3 < la ∧ la ≤ ha ∧ ha ≤ lb ∧ (T5 < la ∨ ha ≤ T5) ∧ hi0 ≤ T5 ∧ ha ≤ wE.heap.size)
/-- Behind the first Spoil. -/
def Cf8 (w wE : World) (W lo0 hi0 T3 lb hb T5 : Nat) (y t0 tb : Ma) (d : Md) : Prop :=
  Below w.heap.size w wE ∧ Db wE W y d ∧ (Hq wE t0 d ∧ Ow wE lo0 hi0 t0 d ∧ Db wE T3 t0 d) ∧ (Hq wE tb d ∧ Ow wE lb hb tb d ∧ Db wE T5 tb d) ∧
  (w.heap.size = W ∧ W < lo0 ∧ lo0 ≤ hi0 ∧ hi0 ≤ T3 ∧ hi0 ≤ lb ∧ hi0 ≤ T5 ∧ hi0 ≤ wE.heap.size)
section
variable {w wE w' : World} {W lo0 hi0 T3 la ha T4 lb hb T5 : Nat} {y t0 ta tb : Ma} {d : Md}
theorem Cs8.call (h : Cs8 w wE W lo0 hi0 T3 la ha T4 lb hb T5 y t0 ta tb d) (k : Below wE.heap.size wE w') : Cs8 w w' W lo0 hi0 T3 la ha T4 lb hb T5 y t0 ta tb d := by
  obtain ⟨h1, h2, h3, h4, h5, i1, i2, i3, i4, i5, i6, i7, i8, i9, i10⟩ := h
  exact ⟨below_on h1 k, h2.keep k, ⟨h3.1.keep k, h3.2.1.keep k, h3.2.2.keep k⟩, ⟨h4.1.keep k, h4.2.1.keep k, h4.2.2.keep k⟩, ⟨h5.1.keep k, h5.2.1.keep k, h5.2.2.keep k⟩, i1, i2, i3, i4, i5, i6, i7, i8, i9, Nat.le_trans i10 k.size⟩
theorem Cs8.drew (h : Cs8 w wE W lo0 hi0 T3 la ha T4 lb hb T5 y t0 ta tb d) : Cs8 w wE.drew W lo0 hi0 T3 la ha T4 lb hb T5 y t0 ta tb d := h.call (below_draws (Below.refl _ _) 1)
theorem Cs8.qa (h : Cs8 w wE W lo0 hi0 T3 la ha T4 lb hb T5 y t0 ta tb d) : Hq wE ta d := h.2.2.2.1.1
theorem Cs8.qb (h : Cs8 w wE W lo0 hi0 T3 la ha T4 lb hb T5 y t0 ta tb d) : Hq wE tb d := h.2.2.2.2.1.1
theorem Cs8.qy (h : Cs8 w wE W lo0 hi0 T3 la ha T4 lb hb T5 y t0 ta tb d) (hq : Hq w y d) : Hq wE y d := hq.keep h.1
theorem Cs8.hx (h : Cs8 w wE W lo0 hi0 T3 la ha T4 lb hb T5 y t0 ta tb d) : ha ≤ wE.heap.size := h.2.2.2.2.2.2.2.2.2.2.2.2.2.2
theorem Cs8.spoil (h : Cs8 w wE W lo0 hi0 T3 la ha T4 lb hb T5 y t0 ta tb d) (k : Sp la ha wE w') : Cf8 w w' W lo0 hi0 T3 lb hb T5 y t0 tb d := by
  obtain ⟨h1, h2, h3, h4, h5, i1, i2, i3, i4, i5, i6, i7, i8, i9, i10⟩ := h
  have ks := k.size
  exact ⟨h1.trans ((k.toBelow (by omega)).mono (by omega)), h2.apart k (.inl (by omega)), ⟨h3.1.apart h3.2.1 k (.inl (by omega)), h3.2.1.apart k (.inl (by omega)), h3.2.2.apart k (.inl (by omega))⟩,
    ⟨h5.1.apart h5.2.1 k (.inr (by omega)), h5.2.1.apart k (.inr (by omega)), h5.2.2.apart k i8⟩, i1, i2, i3, i4, by omega, i9, by omega⟩
theorem Cf8.call (h : Cf8 w wE W lo0 hi0 T3 lb hb T5 y t0 tb d) (k : Below wE.heap.size wE w') : Cf8 w w' W lo0 hi0 T3 lb hb T5 y t0 tb d := by
  obtain ⟨h1, h2, h3, h5, i1, i2, i3, i4, i5, i6, i7⟩ := h
  exact ⟨below_on h1 k, h2.keep k, ⟨h3.1.keep k, h3.2.1.keep k, h3.2.2.keep k⟩, ⟨h5.1.keep k, h5.2.1.keep k, h5.2.2.keep k⟩, i1, i2, i3, i4, i5, i6, Nat.le_trans i7 k.size⟩
theorem Cf8.drew (h : Cf8 w wE W lo0 hi0 T3 lb hb T5 y t0 tb d) : Cf8 w wE.drew W lo0 hi0 T3 lb hb T5 y t0 tb d := h.call (below_draws (Below.refl _ _) 1)
theorem Cf8.q0 (h : Cf8 w wE W lo0 hi0 T3 lb hb T5 y t0 tb d) : Hq wE t0 d := h.2.2.1.1
theorem Cf8.qb (h : Cf8 w wE W lo0 hi0 T3 lb hb T5 y t0 tb d) : Hq wE tb d := h.2.2.2.1.1
theorem Cf8.qy (h : Cf8 w wE W lo0 hi0 T3 lb hb T5 y t0 tb d) (hq : Hq w y d) : Hq wE y d := hq.keep h.1
theorem Cf8.h0 (h : Cf8 w wE W lo0 hi0 T3 lb hb T5 y t0 tb d) : hi0 ≤ wE.heap.size := h.2.2.2.2.2.2.2.2.2.2
theorem Cf8.spoil (h : Cf8 w wE W lo0 hi0 T3 lb hb T5 y t0 tb d) (k : Sp lo0 hi0 wE w') : Below w.heap.size w w' ∧ Db w' W y d ∧ (Hq w' tb d ∧ Ow w' lb hb tb d ∧ Db w' T5 tb d) ∧ True := by
  obtain ⟨h1, h2, h3, h5, i1, i2, i3, i4, i5, i6, i7⟩ := h
  exact ⟨h1.trans ((k.toBelow (by omega)).mono (by omega)), h2.apart k (.inl (by omega)), ⟨h5.1.apart h5.2.1 k (.inr (by omega)), h5.2.1.apart k (.inr (by omega)), h5.2.2.apart k (.inr (by omega))⟩, trivial⟩
end
theorem hq_set {w : World} {lo hi T : Nat} {y : Ma} {d : Md} (h : Hq w y d ∧ Ow w lo hi y d) (hT : T < lo ∨ hi ≤ T) (hw : T < w.heap.size) (y2 : Ma) (d2 : Md) : Hq (put4 w T y2 d2) y d ∧ Ow (put4 w T y2 d2) lo hi y d := by
  have k : Sp T (T + 1) w (put4 w T y2 d2) := (((((Sp.refl T (T + 1) w).set (Nat.le_refl _) (Nat.lt_succ_self _) 0 _).set (Nat.le_refl _) (Nat.lt_succ_self _) 1 _).set (Nat.le_refl _) (Nat.lt_succ_self _) 2 _).set (Nat.le_refl _) (Nat.lt_succ_self _) 3 _)
  exact ⟨h.1.apart h.2 k (by omega), h.2.apart k (by omega)⟩
theorem db_set {w : World} {T B : Nat} {y : Ma} {d : Md} (h : Db w B y d) (hT : T ≠ B) (y2 : Ma) (d2 : Md) : Db (put4 w T y2 d2) B y d :=
  (((h.other (p := ⟨T, 0, none⟩) hT _).other (p := ⟨T, 1, none⟩) hT _).other (p := ⟨T, 2, none⟩) hT _).other (p := ⟨T, 3, none⟩) hT _
theorem cs8_start {w wE : World} {W lo0 hi0 T3 la ha T4 lb hb T5 : Nat} {y t0 ta tb : Ma} {d : Md} (hS : Sx w wE [fD W y d, fQm y d, fD T3 t0 d, fQm t0 d, fOw lo0 hi0 t0 d]) (hW : w.heap.size = W) (hL : W < lo0 ∧ lo0 ≤ hi0 ∧ hi0 ≤ T3)
    (hA : Hq wE ta d ∧ Ow wE la ha ta d) (hB : Hq wE tb d ∧ Ow wE lb hb tb d) (h4 : T8 wE T4) (h5 : T8 wE T5) (hi : T3 < la ∧ la ≤ ha ∧ ha ≤ lb ∧ lb ≤ hb ∧ (T4 < la ∨ ha ≤ T4) ∧ (T4 < lb ∨ hb ≤ T4) ∧ (T5 < la ∨ ha ≤ T5) ∧ (T5 < lb ∨ hb ≤ T5) ∧ T3 < T4 ∧ T3 < T5 ∧ ha ≤ wE.heap.size) (hne : T4 ≠ T5) :
    Hid (Cs8 w (put4 (put4 wE T4 ta d) T5 tb d) W lo0 hi0 T3 la ha T4 lb hb T5 y t0 ta tb d) := by
  obtain ⟨s1, s2, s3, s4, s5, s6, -⟩ := hS
  obtain ⟨l1, l2, l3⟩ := hL
  obtain ⟨i1, i2, i3, i4, i5, i6, i7, i8, i9, i10, i11⟩ := hi
  have w4 := h4.1.1
  have w5 := h5.1.1
  have z4 : (put4 wE T4 ta d).heap.size = wE.heap.size := size_put4 _ _ _ _
  have z5 : (put4 (put4 wE T4 ta d) T5 tb d).heap.size = wE.heap.size := by rw [size_put4, z4]
  have m := hq_set (T := T5) (hq_set (T := T4) ⟨s5, s6⟩ (.inr (by omega)) w4 ta d) (.inr (by omega)) (by rw [z4]; exact w5) tb d
  have a := hq_set (T := T5) (hq_set (T := T4) hA i5 w4 ta d) i7 (by rw [z4]; exact w5) tb d
  have b := hq_set (T := T5) (hq_set (T := T4) hB i6 w4 ta d) i8 (by rw [z4]; exact w5) tb d
  refine ⟨put4_below (put4_below s1 (by omega) _ _) (by omega) _ _, db_set (db_set s2 (by omega) _ _) (by omega) _ _, ⟨m.1, m.2, db_set (db_set s4 (by omega) _ _) (by omega) _ _⟩, ⟨a.1, a.2, db_set (put4_db h4.2.1 _ _) (fun e => hne e.symm) _ _⟩, ⟨b.1, b.2, put4_db (db_set h5.2.1 hne _ _) _ _⟩, hW, l1, l2, l3, i1, i2, i3, i7, by omega, by rw [z5]; exact i11⟩
set_option maxHeartbeats 16000000 in
theorem m8copies_walk (y : Ma) (d : Md) (w : World) (hy : Hq w y d) : Calls Try.prog 3 #[dv y d] w fun r w' => r = .returned (.bool true) ∧ Below w.heap.size w w' := by
  obtain ⟨G, gc, P, pc, A, c, Z⟩ := y
  have HQ0 := Lib.hid hy
  have S0 := Lib.hid (((Sx.start w).add (fQm ⟨G, gc, P, pc, A, c, Z⟩ d) hy).mkD ⟨G, gc, P, pc, A, c, Z⟩ d)
  clear hy
  go_enter Try.func3, Try.ntmps3
  go_upto_region 1 with (fail)
  have S0' : Hid (Sx w (w.alloc (.cells #[.slice G d.g.length gc, .slice P d.p.length pc, .slice A d.s.length c, .int .i64 d.i] 25)) [fD w.heap.size ⟨G, gc, P, pc, A, c, Z⟩ d, fQm ⟨G, gc, P, pc, A, c, Z⟩ d]) := S0
  clear S0
  have hsz : (w.alloc (.cells #[.slice G d.g.length gc, .slice P d.p.length pc, .slice A d.s.length c, .int .i64 d.i] 25)).heap.size = w.heap.size + 1 := size1 _ _
  generalize w.alloc (.cells #[.slice G d.g.length gc, .slice P d.p.length pc, .slice A d.s.length c, .int .i64 d.i] 25) = w1 at *
  have S1 := S0'
  clear S0'
  obtain ⟨W, hW⟩ : ∃ W, w.heap.size = W := ⟨_, rfl⟩
  have HW := Lib.hid hW
  rw [hW] at S1 hsz ⊢
  clear hW
  obtain ⟨y0, y1, y2, y3, y4⟩ := S1.out.2.1
  dsimp only at y1 y2 y3
  go_wp2_with fail
  refine (great8_v ⟨G, gc, P, pc, A, c, Z⟩ d _ S1.out.2.2.1).mono ?_
  rintro r w2 ⟨rfl, hb⟩
  have S2 := Lib.hid (S1.out.call hb)
  have hs2 : W + 1 ≤ w2.heap.size := by rw [← hsz]; exact hb.size
  clear hb S1 hsz y0 y1 y2 y3 y4
  by_cases hg : qG d = true
  · rw [hg]
    have HE := Lib.hid S2.out.1
    clear hs2
    go_wp2_with fail
    go_ret
    exact ⟨rfl, HE.out⟩
  · have hg := Bool.eq_false_iff.2 hg
    have HG := Lib.hid hg
    rw [hg]
    clear hg
    obtain ⟨y0, y1, y2, y3, y4⟩ := S2.out.2.1
    dsimp only at y1 y2 y3
    go_wp2_with fail
    refine (r8copyw ⟨G, gc, P, pc, A, c, Z⟩ d _ S2.out.2.2.1 HG.out).mono ?_
    rintro r w3 ⟨t0, rfl, hq, ho, hb⟩
    obtain ⟨lo0, hlo⟩ : ∃ k, w2.heap.size = k := ⟨_, rfl⟩
    rw [hlo] at ho hs2
    have h23 : lo0 ≤ w3.heap.size := by rw [← hlo]; exact hb.size
    obtain ⟨hi0, hhi⟩ : ∃ k, w3.heap.size = k := ⟨_, rfl⟩
    rw [hhi] at ho h23
    have S3 := Lib.hid ((((S2.out.call hb).add (fOw lo0 hi0 t0 d) ho).add (fQm t0 d) hq).mkD t0 d)
    rw [hhi] at S3
    have HL : Hid (W < lo0 ∧ lo0 ≤ hi0 ∧ hi0 ≤ hi0) := Lib.hid ⟨by omega, h23, Nat.le_refl _⟩
    have hsz3 : (w3.alloc (dcel t0 d)).heap.size = hi0 + 1 := by rw [size1, hhi]
    clear hq ho hb S2 hs2 h23 y0 y1 y2 y3 y4 hlo
    go_upto_region 4 with (fail)
    obtain ⟨w4, hw4⟩ : ∃ w4, w3.alloc (dcel t0 d) = w4 := ⟨_, rfl⟩
    rw [hw4] at S3 hsz3
    rw [dcel] at hw4
    rw [hw4]
    clear hw4 hhi
    rename_i Qx Kx hKx
    have TAIL : ∀ (la ha T4 lb hb T5 : Nat) (ta tb : Ma) (wE : World) (HC : Hid (Cs8 w wE W lo0 hi0 hi0 la ha T4 lb hb T5 ⟨G, gc, P, pc, A, c, Z⟩ t0 ta tb d)) (u10 u11 u12 u13 : Value),
        Exit.then Kx Qx .normal { tmps := #[dv ⟨G, gc, P, pc, A, c, Z⟩ d, .pointer (some ⟨W, 0, none⟩), .bool false, .pointer (some ⟨hi0, 0, none⟩), .pointer (some ⟨T4, 0, none⟩), .pointer (some ⟨T5, 0, none⟩), .agg #[.slice G d.g.length gc, .slice P d.p.length pc, .slice A d.s.length c, .int .i64 d.i], .bool false, .agg #[.slice G d.g.length gc, .slice P d.p.length pc, .slice A d.s.length c, .int .i64 d.i], dv t0 d, u10, u11, u12, u13, undef, undef, undef, undef, undef, undef, undef, undef, undef, undef, undef, undef, undef, undef, undef, undef, undef, undef, undef, undef, undef, undef, undef, undef, undef, undef, undef], defers := [] } wE := by
      intro la ha T4 lb hb T5 ta tb wE HC u10 u11 u12 u13
      clear S3 hsz3
      obtain ⟨-, ⟨y0, y1, y2, y3, y4⟩, -, ⟨-, -, ⟨a0, a1, a2, a3, a4⟩⟩, ⟨-, -, ⟨b0, b1, b2, b3, b4⟩⟩, -⟩ := HC.out
      go_wp2_with fail
      refine (r8same_v ta ⟨G, gc, P, pc, A, c, Z⟩ d d true _ HC.out.qa (HC.out.qy HQ0.out) (qS_self d)).mono ?_
      rintro r wx ⟨rfl, hb⟩
      have HC0 := Lib.hid (HC.out.call hb)
      clear hb HC y0 y1 y2 y3 y4 a0 a1 a2 a3 a4 b0 b1 b2 b3 b4
      obtain ⟨-, ⟨y0, y1, y2, y3, y4⟩, -, -, ⟨-, -, ⟨b0, b1, b2, b3, b4⟩⟩, -⟩ := HC0.out
      go_wp2_with fail
      refine (r8same_v tb ⟨G, gc, P, pc, A, c, Z⟩ d d true _ HC0.out.qb (HC0.out.qy HQ0.out) (qS_self d)).mono ?_
      rintro r wz ⟨rfl, hb⟩
      have HC1 := Lib.hid (HC0.out.call hb)
      clear hb HC0 y0 y1 y2 y3 y4 b0 b1 b2 b3 b4
      obtain ⟨-, -, -, ⟨-, -, ⟨a0, a1, a2, a3, a4⟩⟩, -⟩ := HC1.out
      go_wp2_with fail
      refine (spoilw HC1.out.qa HC1.out.2.2.2.1.2.1 (HC1.out.hx) HG.out).mono ?_
      rintro r w6 ⟨rfl, hsp⟩
      have HC2 := Lib.hid (HC1.out.spoil hsp)
      clear HC1 hsp a0 a1 a2 a3 a4
      obtain ⟨-, ⟨y0, y1, y2, y3, y4⟩, ⟨-, -, ⟨z0, z1, z2, z3, z4⟩⟩, -⟩ := HC2.out
      go_wp2_with fail
      refine (r8same_v t0 ⟨G, gc, P, pc, A, c, Z⟩ d d true _ HC2.out.q0 (HC2.out.qy HQ0.out) (qS_self d)).mono ?_
      rintro r w7 ⟨rfl, hb⟩
      have HC3 := Lib.hid (HC2.out.call hb)
      clear hb HC2 y0 y1 y2 y3 y4 z0 z1 z2 z3 z4
      obtain ⟨-, ⟨y0, y1, y2, y3, y4⟩, -, ⟨-, -, ⟨b0, b1, b2, b3, b4⟩⟩, -⟩ := HC3.out
      go_wp2_with fail
      refine (r8same_v tb ⟨G, gc, P, pc, A, c, Z⟩ d d true _ HC3.out.qb (HC3.out.qy HQ0.out) (qS_self d)).mono ?_
      rintro r w7b ⟨rfl, hb⟩
      have HC4 := Lib.hid (HC3.out.call hb)
      clear hb HC3 y0 y1 y2 y3 y4 b0 b1 b2 b3 b4
      obtain ⟨-, -, ⟨-, -, ⟨z0, z1, z2, z3, z4⟩⟩, -⟩ := HC4.out
      go_wp2_with fail
      refine (spoilw HC4.out.q0 HC4.out.2.2.1.2.1 (HC4.out.h0) HG.out).mono ?_
      rintro r w8 ⟨rfl, hsp⟩
      have HC5 := Lib.hid (HC4.out.spoil hsp)
      clear HC4 hsp z0 z1 z2 z3 z4
      obtain ⟨-, ⟨y0, y1, y2, y3, y4⟩, ⟨-, -, ⟨b0, b1, b2, b3, b4⟩⟩, -⟩ := HC5.out
      go_wp2_with fail
      refine (r8same_v tb ⟨G, gc, P, pc, A, c, Z⟩ d d true _ HC5.out.2.2.1.1 (HQ0.out.keep HC5.out.1) (qS_self d)).mono ?_
      rintro r w9 ⟨rfl, hb⟩
      have HE := Lib.hid (below_on HC5.out.1 hb)
      clear hb HC5 y0 y1 y2 y3 y4 b0 b1 b2 b3 b4
      go_wp2_with fail
      go_ret
      exact ⟨rfl, HE.out⟩
    obtain ⟨s0, hs0, hlt⟩ : ∃ s, w4.heap.size = s ∧ hi0 < s := ⟨_, rfl, by rw [hsz3]; exact Nat.lt_succ_self _⟩
    have S4 : Hid (Sx w w4 [fD W ⟨G, gc, P, pc, A, c, Z⟩ d, fQm ⟨G, gc, P, pc, A, c, Z⟩ d, fD hi0 t0 d, fQm t0 d, fOw lo0 hi0 t0 d]) := Lib.hid ⟨S3.out.1, S3.out.2.2.2.2.1, S3.out.2.2.2.2.2.1, S3.out.2.1, S3.out.2.2.1, S3.out.2.2.2.1, trivial⟩
    refine wp_region_L [6, 7] (S := fun w' => Hid (Sx w w' [fD W ⟨G, gc, P, pc, A, c, Z⟩ d, fQm ⟨G, gc, P, pc, A, c, Z⟩ d, fD hi0 t0 d, fQm t0 d, fOw lo0 hi0 t0 d])) (by kernel_rfl) (Hsx.drew S4) (fun hHeld => ?_)
    have HS0 : Hid (w4.drew.heap.size = s0) := Lib.hid hs0
    clear S3 S4 hsz3 hs0
    generalize w4.drew = wc0 at *
    refine wpL_take (i := 0) (v := ?_) rfl (by kernel_rfl) (fun _ _ _ h => h) (Or.inl ⟨by rfl, ?_⟩) (by assumption) ?_
    rotate_left 1
    · intro w hSw; (try dsimp only at hSw); obtain ⟨-, ⟨y0, y1, y2, y3, y4⟩, -, ⟨z0, z1, z2, z3, z4⟩, -⟩ := hSw.out; go_simp; try with_reducible rfl
    try simp only [Act.put, List.getElem_toArray, List.getElem_cons_zero, List.getElem_cons_succ, List.setIfInBounds_toArray, List.set_cons_zero, List.set_cons_succ]
    refine wpL_take2 (i := 2) (v := ?_) rfl (by kernel_rfl) (fun _ _ _ h => h) (Or.inl ⟨by rfl, ?_⟩) (by assumption) ?_
    rotate_left 1
    · intro w hSw; (try dsimp only at hSw); obtain ⟨-, ⟨y0, y1, y2, y3, y4⟩, -, ⟨z0, z1, z2, z3, z4⟩, -⟩ := hSw.out; go_simp; try with_reducible rfl
    try simp only [Act.put, List.getElem_toArray, List.getElem_cons_zero, List.getElem_cons_succ, List.setIfInBounds_toArray, List.set_cons_zero, List.set_cons_succ]
    refine wpL_ready (rs := [1, 4, 5]) (by kernel_rfl) (by simp) ?_
    refine AllL.cons rfl (fun K hK => ?_) ?_
    · skip
      go_simp
      refine (mcopyw t0 d _ hHeld.out.2.2.2.2.1 HG.out).mono ?_
      rintro r wc1 ⟨ta, rfl, hq, ho, hb⟩
      have HBB := Lib.hid hb
      have le0 : s0 ≤ wc1.heap.size := by rw [← HS0.out]; exact hb.size
      obtain ⟨s1, hs⟩ : ∃ s, wc1.heap.size = s := ⟨_, rfl⟩
      have HS1 := Lib.hid hs
      rw [hs] at le0
      rw [HS0.out, hs] at ho
      have HA := Lib.hid (And.intro hq ho)
      clear hq ho hb hs
      go_wp2_with fail
      refine hK.out _ _ (Hsx.call HBB.out hHeld) (fun hHeld => ?_)
      clear hK K
      try simp only [Act.put, List.getElem_toArray, List.getElem_cons_zero, List.getElem_cons_succ, List.setIfInBounds_toArray, List.set_cons_zero, List.set_cons_succ]
      refine wpL_ready (rs := [3, 4, 5]) (by kernel_rfl) (by simp) ?_
      refine AllL.cons rfl (fun K hK => ?_) ?_
      · skip
        go_simp
        refine (mcopyw t0 d _ hHeld.out.2.2.2.2.1 HG.out).mono ?_
        rintro r wc2 ⟨tb, rfl, hq, ho, hb⟩
        have HBB := Lib.hid hb
        have le1 : s1 ≤ wc2.heap.size := by rw [← HS1.out]; exact hb.size
        obtain ⟨s2, hs⟩ : ∃ s, wc2.heap.size = s := ⟨_, rfl⟩
        have HS2 := Lib.hid hs
        rw [hs] at le1
        rw [HS1.out, hs] at ho
        have HB := Lib.hid (And.intro hq ho)
        clear hq ho hb hs
        replace HA := Lib.hid (And.intro (HA.out.1.keep HBB.out) (HA.out.2.keep HBB.out))
        go_wp2_with fail
        refine hK.out _ _ (Hsx.call HBB.out hHeld) (fun hHeld => ?_)
        clear hK K
        try simp only [Act.put, List.getElem_toArray, List.getElem_cons_zero, List.getElem_cons_succ, List.setIfInBounds_toArray, List.set_cons_zero, List.set_cons_succ]
        refine wpL_ready (rs := [4, 5]) (by kernel_rfl) (by simp) ?_
        refine AllL.cons rfl (fun K hK => ?_) ?_
        · skip
          go_simp
          have HBB := Lib.hid (new1 (w := wc2) (a := .cells #[.slice none 0 0, .slice none 0 0, .slice none 0 0, .int .i64 0] 25))
          have H4 := Lib.hid (T8.new wc2)
          obtain ⟨s3, hs, le2⟩ : ∃ s, (wc2.alloc (.cells #[.slice none 0 0, .slice none 0 0, .slice none 0 0, .int .i64 0] 25)).heap.size = s ∧ s2 < s := ⟨_, rfl, by rw [size1, HS2.out]; exact Nat.lt_succ_self _⟩
          rw [HS2.out] at H4 ⊢
          replace HA := Lib.hid (And.intro (HA.out.1.keep HBB.out) (HA.out.2.keep HBB.out))
          replace HB := Lib.hid (And.intro (HB.out.1.keep HBB.out) (HB.out.2.keep HBB.out))
          have SA := Lib.hid (hHeld.out.call HBB.out)
          generalize wc2.alloc (.cells #[.slice none 0 0, .slice none 0 0, .slice none 0 0, .int .i64 0] 25) = wc3 at *
          have HS3 := Lib.hid hs
          clear hs
          refine hK.out _ _ (SA) (fun hHeld => ?_)
          clear hK K
          try simp only [Act.put, List.getElem_toArray, List.getElem_cons_zero, List.getElem_cons_succ, List.setIfInBounds_toArray, List.set_cons_zero, List.set_cons_succ]
          refine wpL_ready (rs := [5]) (by kernel_rfl) (by simp) ?_
          refine AllL.cons rfl (fun K hK => ?_) AllL.nil
          go_simp
          have HBB := Lib.hid (new1 (w := wc3) (a := .cells #[.slice none 0 0, .slice none 0 0, .slice none 0 0, .int .i64 0] 25))
          have H5 := Lib.hid (T8.new wc3)
          obtain ⟨s4, hs, le3⟩ : ∃ s, (wc3.alloc (.cells #[.slice none 0 0, .slice none 0 0, .slice none 0 0, .int .i64 0] 25)).heap.size = s ∧ s3 < s := ⟨_, rfl, by rw [size1, HS3.out]; exact Nat.lt_succ_self _⟩
          rw [HS3.out] at H5 ⊢
          replace HA := Lib.hid (And.intro (HA.out.1.keep HBB.out) (HA.out.2.keep HBB.out))
          replace HB := Lib.hid (And.intro (HB.out.1.keep HBB.out) (HB.out.2.keep HBB.out))
          replace H4 := Lib.hid (H4.out.keep HBB.out)
          have SA := Lib.hid (hHeld.out.call HBB.out)
          generalize wc3.alloc (.cells #[.slice none 0 0, .slice none 0 0, .slice none 0 0, .int .i64 0] 25) = wc4 at *
          have HS4 := Lib.hid hs
          clear hs
          refine hK.out _ _ (SA) (fun hHeld => ?_)
          clear hK K
          try simp only [Act.put, List.getElem_toArray, List.getElem_cons_zero, List.getElem_cons_succ, List.setIfInBounds_toArray, List.set_cons_zero, List.set_cons_succ]
          refine wpL_ready (rs := [6]) (by kernel_rfl) (by simp) ?_
          refine AllL.late rfl (by kernel_rfl) (fun K hK => ?_) AllL.nil
          have hne : s2 ≠ s3 := by omega
          have hne2 : s3 ≠ s2 := by omega
          have SZ := hHeld
          obtain ⟨⟨p0, pf⟩, ⟨p1, p2, p3, p4, p5⟩, -⟩ := H4.out
          have pf0 := pf 0
          have pf1 := pf 1
          have pf2 := pf 2
          have pf3 := pf 3
          clear pf
          obtain ⟨⟨q0, qf⟩, ⟨q1, q2, q3, q4, q5⟩, -⟩ := H5.out
          have qf0 := qf 0
          have qf1 := qf 1
          have qf2 := qf 2
          have qf3 := qf 3
          clear qf
          go_simp
          refine hK.out _ _ ?_
          clear hK K
          try simp only [Act.put, List.getElem_toArray, List.getElem_cons_zero, List.getElem_cons_succ, List.setIfInBounds_toArray, List.set_cons_zero, List.set_cons_succ]
          refine wpL_ready (rs := [7]) (by kernel_rfl) (by simp) ?_
          refine AllL.late rfl (by kernel_rfl) (fun K hK => ?_) AllL.nil
          go_simp
          refine hK.out _ _ ?_
          clear hK K
          try simp only [Act.put, List.getElem_toArray, List.getElem_cons_zero, List.getElem_cons_succ, List.setIfInBounds_toArray, List.set_cons_zero, List.set_cons_succ]
          refine wpL_done (by kernel_rfl) ?_ _
          exact TAIL s0 s1 s2 s1 s2 s3 ta tb _ (cs8_start SZ.out HW.out HL.out HA.out HB.out H4.out H5.out (by rw [HS4.out]; omega) (by omega)) _ _ _ _
        refine AllL.cons rfl (fun K hK => ?_) AllL.nil
        go_simp
        have HBB := Lib.hid (new1 (w := wc2) (a := .cells #[.slice none 0 0, .slice none 0 0, .slice none 0 0, .int .i64 0] 25))
        have H5 := Lib.hid (T8.new wc2)
        obtain ⟨s3, hs, le2⟩ : ∃ s, (wc2.alloc (.cells #[.slice none 0 0, .slice none 0 0, .slice none 0 0, .int .i64 0] 25)).heap.size = s ∧ s2 < s := ⟨_, rfl, by rw [size1, HS2.out]; exact Nat.lt_succ_self _⟩
        rw [HS2.out] at H5 ⊢
        replace HA := Lib.hid (And.intro (HA.out.1.keep HBB.out) (HA.out.2.keep HBB.out))
        replace HB := Lib.hid (And.intro (HB.out.1.keep HBB.out) (HB.out.2.keep HBB.out))
        have SA := Lib.hid (hHeld.out.call HBB.out)
        generalize wc2.alloc (.cells #[.slice none 0 0, .slice none 0 0, .slice none 0 0, .int .i64 0] 25) = wc3 at *
        have HS3 := Lib.hid hs
        clear hs
        refine hK.out _ _ (SA) (fun hHeld => ?_)
        clear hK K
        try simp only [Act.put, List.getElem_toArray, List.getElem_cons_zero, List.getElem_cons_succ, List.setIfInBounds_toArray, List.set_cons_zero, List.set_cons_succ]
        refine wpL_ready (rs := [4]) (by kernel_rfl) (by simp) ?_
        refine AllL.cons rfl (fun K hK => ?_) AllL.nil
        go_simp
        have HBB := Lib.hid (new1 (w := wc3) (a := .cells #[.slice none 0 0, .slice none 0 0, .slice none 0 0, .int .i64 0] 25))
        have H4 := Lib.hid (T8.new wc3)
        obtain ⟨s4, hs, le3⟩ : ∃ s, (wc3.alloc (.cells #[.slice none 0 0, .slice none 0 0, .slice none 0 0, .int .i64 0] 25)).heap.size = s ∧ s3 < s := ⟨_, rfl, by rw [size1, HS3.out]; exact Nat.lt_succ_self _⟩
        rw [HS3.out] at H4 ⊢
        replace HA := Lib.hid (And.intro (HA.out.1.keep HBB.out) (HA.out.2.keep HBB.out))
        replace HB := Lib.hid (And.intro (HB.out.1.keep HBB.out) (HB.out.2.keep HBB.out))
        replace H5 := Lib.hid (H5.out.keep HBB.out)
        have SA := Lib.hid (hHeld.out.call HBB.out)
        generalize wc3.alloc (.cells #[.slice none 0 0, .slice none 0 0, .slice none 0 0, .int .i64 0] 25) = wc4 at *
        have HS4 := Lib.hid hs
        clear hs
        refine hK.out _ _ (SA) (fun hHeld => ?_)
        clear hK K
        try simp only [Act.put, List.getElem_toArray, List.getElem_cons_zero, List.getElem_cons_succ, List.setIfInBounds_toArray, List.set_cons_zero, List.set_cons_succ]
        refine wpL_ready (rs := [6]) (by kernel_rfl) (by simp) ?_
        refine AllL.late rfl (by kernel_rfl) (fun K hK => ?_) AllL.nil
        have hne : s3 ≠ s2 := by omega
        have hne2 : s2 ≠ s3 := by omega
        have SZ := hHeld
        obtain ⟨⟨p0, pf⟩, ⟨p1, p2, p3, p4, p5⟩, -⟩ := H4.out
        have pf0 := pf 0
        have pf1 := pf 1
        have pf2 := pf 2
        have pf3 := pf 3
        clear pf
        obtain ⟨⟨q0, qf⟩, ⟨q1, q2, q3, q4, q5⟩, -⟩ := H5.out
        have qf0 := qf 0
        have qf1 := qf 1
        have qf2 := qf 2
        have qf3 := qf 3
        clear qf
        go_simp
        refine hK.out _ _ ?_
        clear hK K
        try simp only [Act.put, List.getElem_toArray, List.getElem_cons_zero, List.getElem_cons_succ, List.setIfInBounds_toArray, List.set_cons_zero, List.set_cons_succ]
        refine wpL_ready (rs := [7]) (by kernel_rfl) (by simp) ?_
        refine AllL.late rfl (by kernel_rfl) (fun K hK => ?_) AllL.nil
        go_simp
        refine hK.out _ _ ?_
        clear hK K
        try simp only [Act.put, List.getElem_toArray, List.getElem_cons_zero, List.getElem_cons_succ, List.setIfInBounds_toArray, List.set_cons_zero, List.set_cons_succ]
        refine wpL_done (by kernel_rfl) ?_ _
        exact TAIL s0 s1 s3 s1 s2 s2 ta tb _ (cs8_start SZ.out HW.out HL.out HA.out HB.out H4.out H5.out (by rw [HS4.out]; omega) (by omega)) _ _ _ _
      refine AllL.cons rfl (fun K hK => ?_) ?_
      · skip
        go_simp
        have HBB := Lib.hid (new1 (w := wc1) (a := .cells #[.slice none 0 0, .slice none 0 0, .slice none 0 0, .int .i64 0] 25))
        have H4 := Lib.hid (T8.new wc1)
        obtain ⟨s2, hs, le1⟩ : ∃ s, (wc1.alloc (.cells #[.slice none 0 0, .slice none 0 0, .slice none 0 0, .int .i64 0] 25)).heap.size = s ∧ s1 < s := ⟨_, rfl, by rw [size1, HS1.out]; exact Nat.lt_succ_self _⟩
        rw [HS1.out] at H4 ⊢
        replace HA := Lib.hid (And.intro (HA.out.1.keep HBB.out) (HA.out.2.keep HBB.out))
        have SA := Lib.hid (hHeld.out.call HBB.out)
        generalize wc1.alloc (.cells #[.slice none 0 0, .slice none 0 0, .slice none 0 0, .int .i64 0] 25) = wc2 at *
        have HS2 := Lib.hid hs
        clear hs
        refine hK.out _ _ (SA) (fun hHeld => ?_)
        clear hK K
        try simp only [Act.put, List.getElem_toArray, List.getElem_cons_zero, List.getElem_cons_succ, List.setIfInBounds_toArray, List.set_cons_zero, List.set_cons_succ]
        refine wpL_ready (rs := [3, 5]) (by kernel_rfl) (by simp) ?_
        refine AllL.cons rfl (fun K hK => ?_) ?_
        · skip
          go_simp
          refine (mcopyw t0 d _ hHeld.out.2.2.2.2.1 HG.out).mono ?_
          rintro r wc3 ⟨tb, rfl, hq, ho, hb⟩
          have HBB := Lib.hid hb
          have le2 : s2 ≤ wc3.heap.size := by rw [← HS2.out]; exact hb.size
          obtain ⟨s3, hs⟩ : ∃ s, wc3.heap.size = s := ⟨_, rfl⟩
          have HS3 := Lib.hid hs
          rw [hs] at le2
          rw [HS2.out, hs] at ho
          have HB := Lib.hid (And.intro hq ho)
          clear hq ho hb hs
          replace HA := Lib.hid (And.intro (HA.out.1.keep HBB.out) (HA.out.2.keep HBB.out))
          replace H4 := Lib.hid (H4.out.keep HBB.out)
          go_wp2_with fail
          refine hK.out _ _ (Hsx.call HBB.out hHeld) (fun hHeld => ?_)
          clear hK K
          try simp only [Act.put, List.getElem_toArray, List.getElem_cons_zero, List.getElem_cons_succ, List.setIfInBounds_toArray, List.set_cons_zero, List.set_cons_succ]
          refine wpL_ready (rs := [5]) (by kernel_rfl) (by simp) ?_
          refine AllL.cons rfl (fun K hK => ?_) AllL.nil
          go_simp
          have HBB := Lib.hid (new1 (w := wc3) (a := .cells #[.slice none 0 0, .slice none 0 0, .slice none 0 0, .int .i64 0] 25))
          have H5 := Lib.hid (T8.new wc3)
          obtain ⟨s4, hs, le3⟩ : ∃ s, (wc3.alloc (.cells #[.slice none 0 0, .slice none 0 0, .slice none 0 0, .int .i64 0] 25)).heap.size = s ∧ s3 < s := ⟨_, rfl, by rw [size1, HS3.out]; exact Nat.lt_succ_self _⟩
          rw [HS3.out] at H5 ⊢
          replace HA := Lib.hid (And.intro (HA.out.1.keep HBB.out) (HA.out.2.keep HBB.out))
          replace HB := Lib.hid (And.intro (HB.out.1.keep HBB.out) (HB.out.2.keep HBB.out))
          replace H4 := Lib.hid (H4.out.keep HBB.out)
          have SA := Lib.hid (hHeld.out.call HBB.out)
          generalize wc3.alloc (.cells #[.slice none 0 0, .slice none 0 0, .slice none 0 0, .int .i64 0] 25) = wc4 at *
          have HS4 := Lib.hid hs
          clear hs
          refine hK.out _ _ (SA) (fun hHeld => ?_)
          clear hK K
          try simp only [Act.put, List.getElem_toArray, List.getElem_cons_zero, List.getElem_cons_succ, List.setIfInBounds_toArray, List.set_cons_zero, List.set_cons_succ]
          refine wpL_ready (rs := [6]) (by kernel_rfl) (by simp) ?_
          refine AllL.late rfl (by kernel_rfl) (fun K hK => ?_) AllL.nil
          have hne : s1 ≠ s3 := by omega
          have hne2 : s3 ≠ s1 := by omega
          have SZ := hHeld
          obtain ⟨⟨p0, pf⟩, ⟨p1, p2, p3, p4, p5⟩, -⟩ := H4.out
          have pf0 := pf 0
          have pf1 := pf 1
          have pf2 := pf 2
          have pf3 := pf 3
          clear pf
          obtain ⟨⟨q0, qf⟩, ⟨q1, q2, q3, q4, q5⟩, -⟩ := H5.out
          have qf0 := qf 0
          have qf1 := qf 1
          have qf2 := qf 2
          have qf3 := qf 3
          clear qf
          go_simp
          refine hK.out _ _ ?_
          clear hK K
          try simp only [Act.put, List.getElem_toArray, List.getElem_cons_zero, List.getElem_cons_succ, List.setIfInBounds_toArray, List.set_cons_zero, List.set_cons_succ]
          refine wpL_ready (rs := [7]) (by kernel_rfl) (by simp) ?_
          refine AllL.late rfl (by kernel_rfl) (fun K hK => ?_) AllL.nil
          go_simp
          refine hK.out _ _ ?_
          clear hK K
          try simp only [Act.put, List.getElem_toArray, List.getElem_cons_zero, List.getElem_cons_succ, List.setIfInBounds_toArray, List.set_cons_zero, List.set_cons_succ]
          refine wpL_done (by kernel_rfl) ?_ _
          exact TAIL s0 s1 s1 s2 s3 s3 ta tb _ (cs8_start SZ.out HW.out HL.out HA.out HB.out H4.out H5.out (by rw [HS4.out]; omega) (by omega)) _ _ _ _
        refine AllL.cons rfl (fun K hK => ?_) AllL.nil
        go_simp
        have HBB := Lib.hid (new1 (w := wc2) (a := .cells #[.slice none 0 0, .slice none 0 0, .slice none 0 0, .int .i64 0] 25))
        have H5 := Lib.hid (T8.new wc2)
        obtain ⟨s3, hs, le2⟩ : ∃ s, (wc2.alloc (.cells #[.slice none 0 0, .slice none 0 0, .slice none 0 0, .int .i64 0] 25)).heap.size = s ∧ s2 < s := ⟨_, rfl, by rw [size1, HS2.out]; exact Nat.lt_succ_self _⟩
        rw [HS2.out] at H5 ⊢
        replace HA := Lib.hid (And.intro (HA.out.1.keep HBB.out) (HA.out.2.keep HBB.out))
        replace H4 := Lib.hid (H4.out.keep HBB.out)
        have SA := Lib.hid (hHeld.out.call HBB.out)
        generalize wc2.alloc (.cells #[.slice none 0 0, .slice none 0 0, .slice none 0 0, .int .i64 0] 25) = wc3 at *
        have HS3 := Lib.hid hs
        clear hs
        refine hK.out _ _ (SA) (fun hHeld => ?_)
        clear hK K
        try simp only [Act.put, List.getElem_toArray, List.getElem_cons_zero, List.getElem_cons_succ, List.setIfInBounds_toArray, List.set_cons_zero, List.set_cons_succ]
        refine wpL_ready (rs := [3]) (by kernel_rfl) (by simp) ?_
        refine AllL.cons rfl (fun K hK => ?_) AllL.nil
        go_simp
        refine (mcopyw t0 d _ hHeld.out.2.2.2.2.1 HG.out).mono ?_
        rintro r wc4 ⟨tb, rfl, hq, ho, hb⟩
        have HBB := Lib.hid hb
        have le3 : s3 ≤ wc4.heap.size := by rw [← HS3.out]; exact hb.size
        obtain ⟨s4, hs⟩ : ∃ s, wc4.heap.size = s := ⟨_, rfl⟩
        have HS4 := Lib.hid hs
        rw [hs] at le3
        rw [HS3.out, hs] at ho
        have HB := Lib.hid (And.intro hq ho)
        clear hq ho hb hs
        replace HA := Lib.hid (And.intro (HA.out.1.keep HBB.out) (HA.out.2.keep HBB.out))
        replace H4 := Lib.hid (H4.out.keep HBB.out)
        replace H5 := Lib.hid (H5.out.keep HBB.out)
        go_wp2_with fail
        refine hK.out _ _ (Hsx.call HBB.out hHeld) (fun hHeld => ?_)
        clear hK K
        try simp only [Act.put, List.getElem_toArray, List.getElem_cons_zero, List.getElem_cons_succ, List.setIfInBounds_toArray, List.set_cons_zero, List.set_cons_succ]
        refine wpL_ready (rs := [6]) (by kernel_rfl) (by simp) ?_
        refine AllL.late rfl (by kernel_rfl) (fun K hK => ?_) AllL.nil
        have hne : s1 ≠ s2 := by omega
        have hne2 : s2 ≠ s1 := by omega
        have SZ := hHeld
        obtain ⟨⟨p0, pf⟩, ⟨p1, p2, p3, p4, p5⟩, -⟩ := H4.out
        have pf0 := pf 0
        have pf1 := pf 1
        have pf2 := pf 2
        have pf3 := pf 3
        clear pf
        obtain ⟨⟨q0, qf⟩, ⟨q1, q2, q3, q4, q5⟩, -⟩ := H5.out
        have qf0 := qf 0
        have qf1 := qf 1
        have qf2 := qf 2
        have qf3 := qf 3
        clear qf
        go_simp
        refine hK.out _ _ ?_
        clear hK K
        try simp only [Act.put, List.getElem_toArray, List.getElem_cons_zero, List.getElem_cons_succ, List.setIfInBounds_toArray, List.set_cons_zero, List.set_cons_succ]
        refine wpL_ready (rs := [7]) (by kernel_rfl) (by simp) ?_
        refine AllL.late rfl (by kernel_rfl) (fun K hK => ?_) AllL.nil
        go_simp
        refine hK.out _ _ ?_
        clear hK K
        try simp only [Act.put, List.getElem_toArray, List.getElem_cons_zero, List.getElem_cons_succ, List.setIfInBounds_toArray, List.set_cons_zero, List.set_cons_succ]
        refine wpL_done (by kernel_rfl) ?_ _
        exact TAIL s0 s1 s1 s3 s4 s2 ta tb _ (cs8_start SZ.out HW.out HL.out HA.out HB.out H4.out H5.out (by rw [HS4.out]; omega) (by omega)) _ _ _ _
      refine AllL.cons rfl (fun K hK => ?_) AllL.nil
      go_simp
      have HBB := Lib.hid (new1 (w := wc1) (a := .cells #[.slice none 0 0, .slice none 0 0, .slice none 0 0, .int .i64 0] 25))
      have H5 := Lib.hid (T8.new wc1)
      obtain ⟨s2, hs, le1⟩ : ∃ s, (wc1.alloc (.cells #[.slice none 0 0, .slice none 0 0, .slice none 0 0, .int .i64 0] 25)).heap.size = s ∧ s1 < s := ⟨_, rfl, by rw [size1, HS1.out]; exact Nat.lt_succ_self _⟩
      rw [HS1.out] at H5 ⊢
      replace HA := Lib.hid (And.intro (HA.out.1.keep HBB.out) (HA.out.2.keep HBB.out))
      have SA := Lib.hid (hHeld.out.call HBB.out)
      generalize wc1.alloc (.cells #[.slice none 0 0, .slice none 0 0, .slice none 0 0, .int .i64 0] 25) = wc2 at *
      have HS2 := Lib.hid hs
      clear hs
      refine hK.out _ _ (SA) (fun hHeld => ?_)
      clear hK K
      try simp only [Act.put, List.getElem_toArray, List.getElem_cons_zero, List.getElem_cons_succ, List.setIfInBounds_toArray, List.set_cons_zero, List.set_cons_succ]
      refine wpL_ready (rs := [3, 4]) (by kernel_rfl) (by simp) ?_
      refine AllL.cons rfl (fun K hK => ?_) ?_
      · skip
        go_simp
        refine (mcopyw t0 d _ hHeld.out.2.2.2.2.1 HG.out).mono ?_
        rintro r wc3 ⟨tb, rfl, hq, ho, hb⟩
        have HBB := Lib.hid hb
        have le2 : s2 ≤ wc3.heap.size := by rw [← HS2.out]; exact hb.size
        obtain ⟨s3, hs⟩ : ∃ s, wc3.heap.size = s := ⟨_, rfl⟩
        have HS3 := Lib.hid hs
        rw [hs] at le2
        rw [HS2.out, hs] at ho
        have HB := Lib.hid (And.intro hq ho)
        clear hq ho hb hs
        replace HA := Lib.hid (And.intro (HA.out.1.keep HBB.out) (HA.out.2.keep HBB.out))
        replace H5 := Lib.hid (H5.out.keep HBB.out)
        go_wp2_with fail
        refine hK.out _ _ (Hsx.call HBB.out hHeld) (fun hHeld => ?_)
        clear hK K
        try simp only [Act.put, List.getElem_toArray, List.getElem_cons_zero, List.getElem_cons_succ, List.setIfInBounds_toArray, List.set_cons_zero, List.set_cons_succ]
        refine wpL_ready (rs := [4]) (by kernel_rfl) (by simp) ?_
        refine AllL.cons rfl (fun K hK => ?_) AllL.nil
        go_simp
        have HBB := Lib.hid (new1 (w := wc3) (a := .cells #[.slice none 0 0, .slice none 0 0, .slice none 0 0, .int .i64 0] 25))
        have H4 := Lib.hid (T8.new wc3)
        obtain ⟨s4, hs, le3⟩ : ∃ s, (wc3.alloc (.cells #[.slice none 0 0, .slice none 0 0, .slice none 0 0, .int .i64 0] 25)).heap.size = s ∧ s3 < s := ⟨_, rfl, by rw [size1, HS3.out]; exact Nat.lt_succ_self _⟩
        rw [HS3.out] at H4 ⊢
        replace HA := Lib.hid (And.intro (HA.out.1.keep HBB.out) (HA.out.2.keep HBB.out))
        replace HB := Lib.hid (And.intro (HB.out.1.keep HBB.out) (HB.out.2.keep HBB.out))
        replace H5 := Lib.hid (H5.out.keep HBB.out)
        have SA := Lib.hid (hHeld.out.call HBB.out)
        generalize wc3.alloc (.cells #[.slice none 0 0, .slice none 0 0, .slice none 0 0, .int .i64 0] 25) = wc4 at *
        have HS4 := Lib.hid hs
        clear hs
        refine hK.out _ _ (SA) (fun hHeld => ?_)
        clear hK K
        try simp only [Act.put, List.getElem_toArray, List.getElem_cons_zero, List.getElem_cons_succ, List.setIfInBounds_toArray, List.set_cons_zero, List.set_cons_succ]
        refine wpL_ready (rs := [6]) (by kernel_rfl) (by simp) ?_
        refine AllL.late rfl (by kernel_rfl) (fun K hK => ?_) AllL.nil
        have hne : s3 ≠ s1 := by omega
        have hne2 : s1 ≠ s3 := by omega
        have SZ := hHeld
        obtain ⟨⟨p0, pf⟩, ⟨p1, p2, p3, p4, p5⟩, -⟩ := H4.out
        have pf0 := pf 0
        have pf1 := pf 1
        have pf2 := pf 2
        have pf3 := pf 3
        clear pf
        obtain ⟨⟨q0, qf⟩, ⟨q1, q2, q3, q4, q5⟩, -⟩ := H5.out
        have qf0 := qf 0
        have qf1 := qf 1
        have qf2 := qf 2
        have qf3 := qf 3
        clear qf
        go_simp
        refine hK.out _ _ ?_
        clear hK K
        try simp only [Act.put, List.getElem_toArray, List.getElem_cons_zero, List.getElem_cons_succ, List.setIfInBounds_toArray, List.set_cons_zero, List.set_cons_succ]
        refine wpL_ready (rs := [7]) (by kernel_rfl) (by simp) ?_
        refine AllL.late rfl (by kernel_rfl) (fun K hK => ?_) AllL.nil
        go_simp
        refine hK.out _ _ ?_
        clear hK K
        try simp only [Act.put, List.getElem_toArray, List.getElem_cons_zero, List.getElem_cons_succ, List.setIfInBounds_toArray, List.set_cons_zero, List.set_cons_succ]
        refine wpL_done (by kernel_rfl) ?_ _
        exact TAIL s0 s1 s3 s2 s3 s1 ta tb _ (cs8_start SZ.out HW.out HL.out HA.out HB.out H4.out H5.out (by rw [HS4.out]; omega) (by omega)) _ _ _ _
      refine AllL.cons rfl (fun K hK => ?_) AllL.nil
      go_simp
      have HBB := Lib.hid (new1 (w := wc2) (a := .cells #[.slice none 0 0, .slice none 0 0, .slice none 0 0, .int .i64 0] 25))
      have H4 := Lib.hid (T8.new wc2)
      obtain ⟨s3, hs, le2⟩ : ∃ s, (wc2.alloc (.cells #[.slice none 0 0, .slice none 0 0, .slice none 0 0, .int .i64 0] 25)).heap.size = s ∧ s2 < s := ⟨_, rfl, by rw [size1, HS2.out]; exact Nat.lt_succ_self _⟩
      rw [HS2.out] at H4 ⊢
      replace HA := Lib.hid (And.intro (HA.out.1.keep HBB.out) (HA.out.2.keep HBB.out))
      replace H5 := Lib.hid (H5.out.keep HBB.out)
      have SA := Lib.hid (hHeld.out.call HBB.out)
      generalize wc2.alloc (.cells #[.slice none 0 0, .slice none 0 0, .slice none 0 0, .int .i64 0] 25) = wc3 at *
      have HS3 := Lib.hid hs
      clear hs
      refine hK.out _ _ (SA) (fun hHeld => ?_)
      clear hK K
      try simp only [Act.put, List.getElem_toArray, List.getElem_cons_zero, List.getElem_cons_succ, List.setIfInBounds_toArray, List.set_cons_zero, List.set_cons_succ]
      refine wpL_ready (rs := [3]) (by kernel_rfl) (by simp) ?_
      refine AllL.cons rfl (fun K hK => ?_) AllL.nil
      go_simp
      refine (mcopyw t0 d _ hHeld.out.2.2.2.2.1 HG.out).mono ?_
      rintro r wc4 ⟨tb, rfl, hq, ho, hb⟩
      have HBB := Lib.hid hb
      have le3 : s3 ≤ wc4.heap.size := by rw [← HS3.out]; exact hb.size
      obtain ⟨s4, hs⟩ : ∃ s, wc4.heap.size = s := ⟨_, rfl⟩
      have HS4 := Lib.hid hs
      rw [hs] at le3
      rw [HS3.out, hs] at ho
      have HB := Lib.hid (And.intro hq ho)
      clear hq ho hb hs
      replace HA := Lib.hid (And.intro (HA.out.1.keep HBB.out) (HA.out.2.keep HBB.out))
      replace H4 := Lib.hid (H4.out.keep HBB.out)
      replace H5 := Lib.hid (H5.out.keep HBB.out)
      go_wp2_with fail
      refine hK.out _ _ (Hsx.call HBB.out hHeld) (fun hHeld => ?_)
      clear hK K
      try simp only [Act.put, List.getElem_toArray, List.getElem_cons_zero, List.getElem_cons_succ, List.setIfInBounds_toArray, List.set_cons_zero, List.set_cons_succ]
      refine wpL_ready (rs := [6]) (by kernel_rfl) (by simp) ?_
      refine AllL.late rfl (by kernel_rfl) (fun K hK => ?_) AllL.nil
      have hne : s2 ≠ s1 := by omega
      have hne2 : s1 ≠ s2 := by omega
      have SZ := hHeld
      obtain ⟨⟨p0, pf⟩, ⟨p1, p2, p3, p4, p5⟩, -⟩ := H4.out
      have pf0 := pf 0
      have pf1 := pf 1
      have pf2 := pf 2
      have pf3 := pf 3
      clear pf
      obtain ⟨⟨q0, qf⟩, ⟨q1, q2, q3, q4, q5⟩, -⟩ := H5.out
      have qf0 := qf 0
      have qf1 := qf 1
      have qf2 := qf 2
      have qf3 := qf 3
      clear qf
      go_simp
      refine hK.out _ _ ?_
      clear hK K
      try simp only [Act.put, List.getElem_toArray, List.getElem_cons_zero, List.getElem_cons_succ, List.setIfInBounds_toArray, List.set_cons_zero, List.set_cons_succ]
      refine wpL_ready (rs := [7]) (by kernel_rfl) (by simp) ?_
      refine AllL.late rfl (by kernel_rfl) (fun K hK => ?_) AllL.nil
      go_simp
      refine hK.out _ _ ?_
      clear hK K
      try simp only [Act.put, List.getElem_toArray, List.getElem_cons_zero, List.getElem_cons_succ, List.setIfInBounds_toArray, List.set_cons_zero, List.set_cons_succ]
      refine wpL_done (by kernel_rfl) ?_ _
      exact TAIL s0 s1 s2 s3 s4 s1 ta tb _ (cs8_start SZ.out HW.out HL.out HA.out HB.out H4.out H5.out (by rw [HS4.out]; omega) (by omega)) _ _ _ _
    refine AllL.cons rfl (fun K hK => ?_) ?_
    · skip
      go_simp
      have HBB := Lib.hid (new1 (w := wc0) (a := .cells #[.slice none 0 0, .slice none 0 0, .slice none 0 0, .int .i64 0] 25))
      have H4 := Lib.hid (T8.new wc0)
      obtain ⟨s1, hs, le0⟩ : ∃ s, (wc0.alloc (.cells #[.slice none 0 0, .slice none 0 0, .slice none 0 0, .int .i64 0] 25)).heap.size = s ∧ s0 < s := ⟨_, rfl, by rw [size1, HS0.out]; exact Nat.lt_succ_self _⟩
      rw [HS0.out] at H4 ⊢
      have SA := Lib.hid (hHeld.out.call HBB.out)
      generalize wc0.alloc (.cells #[.slice none 0 0, .slice none 0 0, .slice none 0 0, .int .i64 0] 25) = wc1 at *
      have HS1 := Lib.hid hs
      clear hs
      refine hK.out _ _ (SA) (fun hHeld => ?_)
      clear hK K
      try simp only [Act.put, List.getElem_toArray, List.getElem_cons_zero, List.getElem_cons_succ, List.setIfInBounds_toArray, List.set_cons_zero, List.set_cons_succ]
      refine wpL_ready (rs := [1, 5]) (by kernel_rfl) (by simp) ?_
      refine AllL.cons rfl (fun K hK => ?_) ?_
      · skip
        go_simp
        refine (mcopyw t0 d _ hHeld.out.2.2.2.2.1 HG.out).mono ?_
        rintro r wc2 ⟨ta, rfl, hq, ho, hb⟩
        have HBB := Lib.hid hb
        have le1 : s1 ≤ wc2.heap.size := by rw [← HS1.out]; exact hb.size
        obtain ⟨s2, hs⟩ : ∃ s, wc2.heap.size = s := ⟨_, rfl⟩
        have HS2 := Lib.hid hs
        rw [hs] at le1
        rw [HS1.out, hs] at ho
        have HA := Lib.hid (And.intro hq ho)
        clear hq ho hb hs
        replace H4 := Lib.hid (H4.out.keep HBB.out)
        go_wp2_with fail
        refine hK.out _ _ (Hsx.call HBB.out hHeld) (fun hHeld => ?_)
        clear hK K
        try simp only [Act.put, List.getElem_toArray, List.getElem_cons_zero, List.getElem_cons_succ, List.setIfInBounds_toArray, List.set_cons_zero, List.set_cons_succ]
        refine wpL_ready (rs := [3, 5]) (by kernel_rfl) (by simp) ?_
        refine AllL.cons rfl (fun K hK => ?_) ?_
        · skip
          go_simp
          refine (mcopyw t0 d _ hHeld.out.2.2.2.2.1 HG.out).mono ?_
          rintro r wc3 ⟨tb, rfl, hq, ho, hb⟩
          have HBB := Lib.hid hb
          have le2 : s2 ≤ wc3.heap.size := by rw [← HS2.out]; exact hb.size
          obtain ⟨s3, hs⟩ : ∃ s, wc3.heap.size = s := ⟨_, rfl⟩
          have HS3 := Lib.hid hs
          rw [hs] at le2
          rw [HS2.out, hs] at ho
          have HB := Lib.hid (And.intro hq ho)
          clear hq ho hb hs
          replace HA := Lib.hid (And.intro (HA.out.1.keep HBB.out) (HA.out.2.keep HBB.out))
          replace H4 := Lib.hid (H4.out.keep HBB.out)
          go_wp2_with fail
          refine hK.out _ _ (Hsx.call HBB.out hHeld) (fun hHeld => ?_)
          clear hK K
          try simp only [Act.put, List.getElem_toArray, List.getElem_cons_zero, List.getElem_cons_succ, List.setIfInBounds_toArray, List.set_cons_zero, List.set_cons_succ]
          refine wpL_ready (rs := [5]) (by kernel_rfl) (by simp) ?_
          refine AllL.cons rfl (fun K hK => ?_) AllL.nil
          go_simp
          have HBB := Lib.hid (new1 (w := wc3) (a := .cells #[.slice none 0 0, .slice none 0 0, .slice none 0 0, .int .i64 0] 25))
          have H5 := Lib.hid (T8.new wc3)
          obtain ⟨s4, hs, le3⟩ : ∃ s, (wc3.alloc (.cells #[.slice none 0 0, .slice none 0 0, .slice none 0 0, .int .i64 0] 25)).heap.size = s ∧ s3 < s := ⟨_, rfl, by rw [size1, HS3.out]; exact Nat.lt_succ_self _⟩
          rw [HS3.out] at H5 ⊢
          replace HA := Lib.hid (And.intro (HA.out.1.keep HBB.out) (HA.out.2.keep HBB.out))
          replace HB := Lib.hid (And.intro (HB.out.1.keep HBB.out) (HB.out.2.keep HBB.out))
          replace H4 := Lib.hid (H4.out.keep HBB.out)
          have SA := Lib.hid (hHeld.out.call HBB.out)
          generalize wc3.alloc (.cells #[.slice none 0 0, .slice none 0 0, .slice none 0 0, .int .i64 0] 25) = wc4 at *
          have HS4 := Lib.hid hs
          clear hs
          refine hK.out _ _ (SA) (fun hHeld => ?_)
          clear hK K
          try simp only [Act.put, List.getElem_toArray, List.getElem_cons_zero, List.getElem_cons_succ, List.setIfInBounds_toArray, List.set_cons_zero, List.set_cons_succ]
          refine wpL_ready (rs := [6]) (by kernel_rfl) (by simp) ?_
          refine AllL.late rfl (by kernel_rfl) (fun K hK => ?_) AllL.nil
          have hne : s0 ≠ s3 := by omega
          have hne2 : s3 ≠ s0 := by omega
          have SZ := hHeld
          obtain ⟨⟨p0, pf⟩, ⟨p1, p2, p3, p4, p5⟩, -⟩ := H4.out
          have pf0 := pf 0
          have pf1 := pf 1
          have pf2 := pf 2
          have pf3 := pf 3
          clear pf
          obtain ⟨⟨q0, qf⟩, ⟨q1, q2, q3, q4, q5⟩, -⟩ := H5.out
          have qf0 := qf 0
          have qf1 := qf 1
          have qf2 := qf 2
          have qf3 := qf 3
          clear qf
          go_simp
          refine hK.out _ _ ?_
          clear hK K
          try simp only [Act.put, List.getElem_toArray, List.getElem_cons_zero, List.getElem_cons_succ, List.setIfInBounds_toArray, List.set_cons_zero, List.set_cons_succ]
          refine wpL_ready (rs := [7]) (by kernel_rfl) (by simp) ?_
          refine AllL.late rfl (by kernel_rfl) (fun K hK => ?_) AllL.nil
          go_simp
          refine hK.out _ _ ?_
          clear hK K
          try simp only [Act.put, List.getElem_toArray, List.getElem_cons_zero, List.getElem_cons_succ, List.setIfInBounds_toArray, List.set_cons_zero, List.set_cons_succ]
          refine wpL_done (by kernel_rfl) ?_ _
          exact TAIL s1 s2 s0 s2 s3 s3 ta tb _ (cs8_start SZ.out HW.out HL.out HA.out HB.out H4.out H5.out (by rw [HS4.out]; omega) (by omega)) _ _ _ _
        refine AllL.cons rfl (fun K hK => ?_) AllL.nil
        go_simp
        have HBB := Lib.hid (new1 (w := wc2) (a := .cells #[.slice none 0 0, .slice none 0 0, .slice none 0 0, .int .i64 0] 25))
        have H5 := Lib.hid (T8.new wc2)
        obtain ⟨s3, hs, le2⟩ : ∃ s, (wc2.alloc (.cells #[.slice none 0 0, .slice none 0 0, .slice none 0 0, .int .i64 0] 25)).heap.size = s ∧ s2 < s := ⟨_, rfl, by rw [size1, HS2.out]; exact Nat.lt_succ_self _⟩
        rw [HS2.out] at H5 ⊢
        replace HA := Lib.hid (And.intro (HA.out.1.keep HBB.out) (HA.out.2.keep HBB.out))
        replace H4 := Lib.hid (H4.out.keep HBB.out)
        have SA := Lib.hid (hHeld.out.call HBB.out)
        generalize wc2.alloc (.cells #[.slice none 0 0, .slice none 0 0, .slice none 0 0, .int .i64 0] 25) = wc3 at *
        have HS3 := Lib.hid hs
        clear hs
        refine hK.out _ _ (SA) (fun hHeld => ?_)
        clear hK K
        try simp only [Act.put, List.getElem_toArray, List.getElem_cons_zero, List.getElem_cons_succ, List.setIfInBounds_toArray, List.set_cons_zero, List.set_cons_succ]
        refine wpL_ready (rs := [3]) (by kernel_rfl) (by simp) ?_
        refine AllL.cons rfl (fun K hK => ?_) AllL.nil
        go_simp
        refine (mcopyw t0 d _ hHeld.out.2.2.2.2.1 HG.out).mono ?_
        rintro r wc4 ⟨tb, rfl, hq, ho, hb⟩
        have HBB := Lib.hid hb
        have le3 : s3 ≤ wc4.heap.size := by rw [← HS3.out]; exact hb.size
        obtain ⟨s4, hs⟩ : ∃ s, wc4.heap.size = s := ⟨_, rfl⟩
        have HS4 := Lib.hid hs
        rw [hs] at le3
        rw [HS3.out, hs] at ho
        have HB := Lib.hid (And.intro hq ho)
        clear hq ho hb hs
        replace HA := Lib.hid (And.intro (HA.out.1.keep HBB.out) (HA.out.2.keep HBB.out))
        replace H4 := Lib.hid (H4.out.keep HBB.out)
        replace H5 := Lib.hid (H5.out.keep HBB.out)
        go_wp2_with fail
        refine hK.out _ _ (Hsx.call HBB.out hHeld) (fun hHeld => ?_)
        clear hK K
        try simp only [Act.put, List.getElem_toArray, List.getElem_cons_zero, List.getElem_cons_succ, List.setIfInBounds_toArray, List.set_cons_zero, List.set_cons_succ]
        refine wpL_ready (rs := [6]) (by kernel_rfl) (by simp) ?_
        refine AllL.late rfl (by kernel_rfl) (fun K hK => ?_) AllL.nil
        have hne : s0 ≠ s2 := by omega
        have hne2 : s2 ≠ s0 := by omega
        have SZ := hHeld
        obtain ⟨⟨p0, pf⟩, ⟨p1, p2, p3, p4, p5⟩, -⟩ := H4.out
        have pf0 := pf 0
        have pf1 := pf 1
        have pf2 := pf 2
        have pf3 := pf 3
        clear pf
        obtain ⟨⟨q0, qf⟩, ⟨q1, q2, q3, q4, q5⟩, -⟩ := H5.out
        have qf0 := qf 0
        have qf1 := qf 1
        have qf2 := qf 2
        have qf3 := qf 3
        clear qf
        go_simp
        refine hK.out _ _ ?_
        clear hK K
        try simp only [Act.put, List.getElem_toArray, List.getElem_cons_zero, List.getElem_cons_succ, List.setIfInBounds_toArray, List.set_cons_zero, List.set_cons_succ]
        refine wpL_ready (rs := [7]) (by kernel_rfl) (by simp) ?_
        refine AllL.late rfl (by kernel_rfl) (fun K hK => ?_) AllL.nil
        go_simp
        refine hK.out _ _ ?_
        clear hK K
        try simp only [Act.put, List.getElem_toArray, List.getElem_cons_zero, List.getElem_cons_succ, List.setIfInBounds_toArray, List.set_cons_zero, List.set_cons_succ]
        refine wpL_done (by kernel_rfl) ?_ _
        exact TAIL s1 s2 s0 s3 s4 s2 ta tb _ (cs8_start SZ.out HW.out HL.out HA.out HB.out H4.out H5.out (by rw [HS4.out]; omega) (by omega)) _ _ _ _
      refine AllL.cons rfl (fun K hK => ?_) AllL.nil
      go_simp
      have HBB := Lib.hid (new1 (w := wc1) (a := .cells #[.slice none 0 0, .slice none 0 0, .slice none 0 0, .int .i64 0] 25))
      have H5 := Lib.hid (T8.new wc1)
      obtain ⟨s2, hs, le1⟩ : ∃ s, (wc1.alloc (.cells #[.slice none 0 0, .slice none 0 0, .slice none 0 0, .int .i64 0] 25)).heap.size = s ∧ s1 < s := ⟨_, rfl, by rw [size1, HS1.out]; exact Nat.lt_succ_self _⟩
      rw [HS1.out] at H5 ⊢
      replace H4 := Lib.hid (H4.out.keep HBB.out)
      have SA := Lib.hid (hHeld.out.call HBB.out)
      generalize wc1.alloc (.cells #[.slice none 0 0, .slice none 0 0, .slice none 0 0, .int .i64 0] 25) = wc2 at *
      have HS2 := Lib.hid hs
      clear hs
      refine hK.out _ _ (SA) (fun hHeld => ?_)
      clear hK K
      try simp only [Act.put, List.getElem_toArray, List.getElem_cons_zero, List.getElem_cons_succ, List.setIfInBounds_toArray, List.set_cons_zero, List.set_cons_succ]
      refine wpL_ready (rs := [1]) (by kernel_rfl) (by simp) ?_
      refine AllL.cons rfl (fun K hK => ?_) AllL.nil
      go_simp
      refine (mcopyw t0 d _ hHeld.out.2.2.2.2.1 HG.out).mono ?_
      rintro r wc3 ⟨ta, rfl, hq, ho, hb⟩
      have HBB := Lib.hid hb
      have le2 : s2 ≤ wc3.heap.size := by rw [← HS2.out]; exact hb.size
      obtain ⟨s3, hs⟩ : ∃ s, wc3.heap.size = s := ⟨_, rfl⟩
      have HS3 := Lib.hid hs
      rw [hs] at le2
      rw [HS2.out, hs] at ho
      have HA := Lib.hid (And.intro hq ho)
      clear hq ho hb hs
      replace H4 := Lib.hid (H4.out.keep HBB.out)
      replace H5 := Lib.hid (H5.out.keep HBB.out)
      go_wp2_with fail
      refine hK.out _ _ (Hsx.call HBB.out hHeld) (fun hHeld => ?_)
      clear hK K
      try simp only [Act.put, List.getElem_toArray, List.getElem_cons_zero, List.getElem_cons_succ, List.setIfInBounds_toArray, List.set_cons_zero, List.set_cons_succ]
      refine wpL_ready (rs := [3]) (by kernel_rfl) (by simp) ?_
      refine AllL.cons rfl (fun K hK => ?_) AllL.nil
      go_simp
      refine (mcopyw t0 d _ hHeld.out.2.2.2.2.1 HG.out).mono ?_
      rintro r wc4 ⟨tb, rfl, hq, ho, hb⟩
      have HBB := Lib.hid hb
      have le3 : s3 ≤ wc4.heap.size := by rw [← HS3.out]; exact hb.size
      obtain ⟨s4, hs⟩ : ∃ s, wc4.heap.size = s := ⟨_, rfl⟩
      have HS4 := Lib.hid hs
      rw [hs] at le3
      rw [HS3.out, hs] at ho
      have HB := Lib.hid (And.intro hq ho)
      clear hq ho hb hs
      replace HA := Lib.hid (And.intro (HA.out.1.keep HBB.out) (HA.out.2.keep HBB.out))
      replace H4 := Lib.hid (H4.out.keep HBB.out)
      replace H5 := Lib.hid (H5.out.keep HBB.out)
      go_wp2_with fail
      refine hK.out _ _ (Hsx.call HBB.out hHeld) (fun hHeld => ?_)
      clear hK K
      try simp only [Act.put, List.getElem_toArray, List.getElem_cons_zero, List.getElem_cons_succ, List.setIfInBounds_toArray, List.set_cons_zero, List.set_cons_succ]
      refine wpL_ready (rs := [6]) (by kernel_rfl) (by simp) ?_
      refine AllL.late rfl (by kernel_rfl) (fun K hK => ?_) AllL.nil
      have hne : s0 ≠ s1 := by omega
      have hne2 : s1 ≠ s0 := by omega
      have SZ := hHeld
      obtain ⟨⟨p0, pf⟩, ⟨p1, p2, p3, p4, p5⟩, -⟩ := H4.out
      have pf0 := pf 0
      have pf1 := pf 1
      have pf2 := pf 2
      have pf3 := pf 3
      clear pf
      obtain ⟨⟨q0, qf⟩, ⟨q1, q2, q3, q4, q5⟩, -⟩ := H5.out
      have qf0 := qf 0
      have qf1 := qf 1
      have qf2 := qf 2
      have qf3 := qf 3
      clear qf
      go_simp
      refine hK.out _ _ ?_
      clear hK K
      try simp only [Act.put, List.getElem_toArray, List.getElem_cons_zero, List.getElem_cons_succ, List.setIfInBounds_toArray, List.set_cons_zero, List.set_cons_succ]
      refine wpL_ready (rs := [7]) (by kernel_rfl) (by simp) ?_
      refine AllL.late rfl (by kernel_rfl) (fun K hK => ?_) AllL.nil
      go_simp
      refine hK.out _ _ ?_
      clear hK K
      try simp only [Act.put, List.getElem_toArray, List.getElem_cons_zero, List.getElem_cons_succ, List.setIfInBounds_toArray, List.set_cons_zero, List.set_cons_succ]
      refine wpL_done (by kernel_rfl) ?_ _
      exact TAIL s2 s3 s0 s3 s4 s1 ta tb _ (cs8_start SZ.out HW.out HL.out HA.out HB.out H4.out H5.out (by rw [HS4.out]; omega) (by omega)) _ _ _ _
    refine AllL.cons rfl (fun K hK => ?_) AllL.nil
    go_simp
    have HBB := Lib.hid (new1 (w := wc0) (a := .cells #[.slice none 0 0, .slice none 0 0, .slice none 0 0, .int .i64 0] 25))
    have H5 := Lib.hid (T8.new wc0)
    obtain ⟨s1, hs, le0⟩ : ∃ s, (wc0.alloc (.cells #[.slice none 0 0, .slice none 0 0, .slice none 0 0, .int .i64 0] 25)).heap.size = s ∧ s0 < s := ⟨_, rfl, by rw [size1, HS0.out]; exact Nat.lt_succ_self _⟩
    rw [HS0.out] at H5 ⊢
    have SA := Lib.hid (hHeld.out.call HBB.out)
    generalize wc0.alloc (.cells #[.slice none 0 0, .slice none 0 0, .slice none 0 0, .int .i64 0] 25) = wc1 at *
    have HS1 := Lib.hid hs
    clear hs
    refine hK.out _ _ (SA) (fun hHeld => ?_)
    clear hK K
    try simp only [Act.put, List.getElem_toArray, List.getElem_cons_zero, List.getElem_cons_succ, List.setIfInBounds_toArray, List.set_cons_zero, List.set_cons_succ]
    refine wpL_ready (rs := [1, 4]) (by kernel_rfl) (by simp) ?_
    refine AllL.cons rfl (fun K hK => ?_) ?_
    · skip
      go_simp
      refine (mcopyw t0 d _ hHeld.out.2.2.2.2.1 HG.out).mono ?_
      rintro r wc2 ⟨ta, rfl, hq, ho, hb⟩
      have HBB := Lib.hid hb
      have le1 : s1 ≤ wc2.heap.size := by rw [← HS1.out]; exact hb.size
      obtain ⟨s2, hs⟩ : ∃ s, wc2.heap.size = s := ⟨_, rfl⟩
      have HS2 := Lib.hid hs
      rw [hs] at le1
      rw [HS1.out, hs] at ho
      have HA := Lib.hid (And.intro hq ho)
      clear hq ho hb hs
      replace H5 := Lib.hid (H5.out.keep HBB.out)
      go_wp2_with fail
      refine hK.out _ _ (Hsx.call HBB.out hHeld) (fun hHeld => ?_)
      clear hK K
      try simp only [Act.put, List.getElem_toArray, List.getElem_cons_zero, List.getElem_cons_succ, List.setIfInBounds_toArray, List.set_cons_zero, List.set_cons_succ]
      refine wpL_ready (rs := [3, 4]) (by kernel_rfl) (by simp) ?_
      refine AllL.cons rfl (fun K hK => ?_) ?_
      · skip
        go_simp
        refine (mcopyw t0 d _ hHeld.out.2.2.2.2.1 HG.out).mono ?_
        rintro r wc3 ⟨tb, rfl, hq, ho, hb⟩
        have HBB := Lib.hid hb
        have le2 : s2 ≤ wc3.heap.size := by rw [← HS2.out]; exact hb.size
        obtain ⟨s3, hs⟩ : ∃ s, wc3.heap.size = s := ⟨_, rfl⟩
        have HS3 := Lib.hid hs
        rw [hs] at le2
        rw [HS2.out, hs] at ho
        have HB := Lib.hid (And.intro hq ho)
        clear hq ho hb hs
        replace HA := Lib.hid (And.intro (HA.out.1.keep HBB.out) (HA.out.2.keep HBB.out))
        replace H5 := Lib.hid (H5.out.keep HBB.out)
        go_wp2_with fail
        refine hK.out _ _ (Hsx.call HBB.out hHeld) (fun hHeld => ?_)
        clear hK K
        try simp only [Act.put, List.getElem_toArray, List.getElem_cons_zero, List.getElem_cons_succ, List.setIfInBounds_toArray, List.set_cons_zero, List.set_cons_succ]
        refine wpL_ready (rs := [4]) (by kernel_rfl) (by simp) ?_
        refine AllL.cons rfl (fun K hK => ?_) AllL.nil
        go_simp
        have HBB := Lib.hid (new1 (w := wc3) (a := .cells #[.slice none 0 0, .slice none 0 0, .slice none 0 0, .int .i64 0] 25))
        have H4 := Lib.hid (T8.new wc3)
        obtain ⟨s4, hs, le3⟩ : ∃ s, (wc3.alloc (.cells #[.slice none 0 0, .slice none 0 0, .slice none 0 0, .int .i64 0] 25)).heap.size = s ∧ s3 < s := ⟨_, rfl, by rw [size1, HS3.out]; exact Nat.lt_succ_self _⟩
        rw [HS3.out] at H4 ⊢
        replace HA := Lib.hid (And.intro (HA.out.1.keep HBB.out) (HA.out.2.keep HBB.out))
        replace HB := Lib.hid (And.intro (HB.out.1.keep HBB.out) (HB.out.2.keep HBB.out))
        replace H5 := Lib.hid (H5.out.keep HBB.out)
        have SA := Lib.hid (hHeld.out.call HBB.out)
        generalize wc3.alloc (.cells #[.slice none 0 0, .slice none 0 0, .slice none 0 0, .int .i64 0] 25) = wc4 at *
        have HS4 := Lib.hid hs
        clear hs
        refine hK.out _ _ (SA) (fun hHeld => ?_)
        clear hK K
        try simp only [Act.put, List.getElem_toArray, List.getElem_cons_zero, List.getElem_cons_succ, List.setIfInBounds_toArray, List.set_cons_zero, List.set_cons_succ]
        refine wpL_ready (rs := [6]) (by kernel_rfl) (by simp) ?_
        refine AllL.late rfl (by kernel_rfl) (fun K hK => ?_) AllL.nil
        have hne : s3 ≠ s0 := by omega
        have hne2 : s0 ≠ s3 := by omega
        have SZ := hHeld
        obtain ⟨⟨p0, pf⟩, ⟨p1, p2, p3, p4, p5⟩, -⟩ := H4.out
        have pf0 := pf 0
        have pf1 := pf 1
        have pf2 := pf 2
        have pf3 := pf 3
        clear pf
        obtain ⟨⟨q0, qf⟩, ⟨q1, q2, q3, q4, q5⟩, -⟩ := H5.out
        have qf0 := qf 0
        have qf1 := qf 1
        have qf2 := qf 2
        have qf3 := qf 3
        clear qf
        go_simp
        refine hK.out _ _ ?_
        clear hK K
        try simp only [Act.put, List.getElem_toArray, List.getElem_cons_zero, List.getElem_cons_succ, List.setIfInBounds_toArray, List.set_cons_zero, List.set_cons_succ]
        refine wpL_ready (rs := [7]) (by kernel_rfl) (by simp) ?_
        refine AllL.late rfl (by kernel_rfl) (fun K hK => ?_) AllL.nil
        go_simp
        refine hK.out _ _ ?_
        clear hK K
        try simp only [Act.put, List.getElem_toArray, List.getElem_cons_zero, List.getElem_cons_succ, List.setIfInBounds_toArray, List.set_cons_zero, List.set_cons_succ]
        refine wpL_done (by kernel_rfl) ?_ _
        exact TAIL s1 s2 s3 s2 s3 s0 ta tb _ (cs8_start SZ.out HW.out HL.out HA.out HB.out H4.out H5.out (by rw [HS4.out]; omega) (by omega)) _ _ _ _
      refine AllL.cons rfl (fun K hK => ?_) AllL.nil
      go_simp
      have HBB := Lib.hid (new1 (w := wc2) (a := .cells #[.slice none 0 0, .slice none 0 0, .slice none 0 0, .int .i64 0] 25))
      have H4 := Lib.hid (T8.new wc2)
      obtain ⟨s3, hs, le2⟩ : ∃ s, (wc2.alloc (.cells #[.slice none 0 0, .slice none 0 0, .slice none 0 0, .int .i64 0] 25)).heap.size = s ∧ s2 < s := ⟨_, rfl, by rw [size1, HS2.out]; exact Nat.lt_succ_self _⟩
      rw [HS2.out] at H4 ⊢
      replace HA := Lib.hid (And.intro (HA.out.1.keep HBB.out) (HA.out.2.keep HBB.out))
      replace H5 := Lib.hid (H5.out.keep HBB.out)
      have SA := Lib.hid (hHeld.out.call HBB.out)
      generalize wc2.alloc (.cells #[.slice none 0 0, .slice none 0 0, .slice none 0 0, .int .i64 0] 25) = wc3 at *
      have HS3 := Lib.hid hs
      clear hs
      refine hK.out _ _ (SA) (fun hHeld => ?_)
      clear hK K
      try simp only [Act.put, List.getElem_toArray, List.getElem_cons_zero, List.getElem_cons_succ, List.setIfInBounds_toArray, List.set_cons_zero, List.set_cons_succ]
      refine wpL_ready (rs := [3]) (by kernel_rfl) (by simp) ?_
      refine AllL.cons rfl (fun K hK => ?_) AllL.nil
      go_simp
      refine (mcopyw t0 d _ hHeld.out.2.2.2.2.1 HG.out).mono ?_
      rintro r wc4 ⟨tb, rfl, hq, ho, hb⟩
      have HBB := Lib.hid hb
      have le3 : s3 ≤ wc4.heap.size := by rw [← HS3.out]; exact hb.size
      obtain ⟨s4, hs⟩ : ∃ s, wc4.heap.size = s := ⟨_, rfl⟩
      have HS4 := Lib.hid hs
      rw [hs] at le3
      rw [HS3.out, hs] at ho
      have HB := Lib.hid (And.intro hq ho)
      clear hq ho hb hs
      replace HA := Lib.hid (And.intro (HA.out.1.keep HBB.out) (HA.out.2.keep HBB.out))
      replace H4 := Lib.hid (H4.out.keep HBB.out)
      replace H5 := Lib.hid (H5.out.keep HBB.out)
      go_wp2_with fail
      refine hK.out _ _ (Hsx.call HBB.out hHeld) (fun hHeld => ?_)
      clear hK K
      try simp only [Act.put, List.getElem_toArray, List.getElem_cons_zero, List.getElem_cons_succ, List.setIfInBounds_toArray, List.set_cons_zero, List.set_cons_succ]
      refine wpL_ready (rs := [6]) (by kernel_rfl) (by simp) ?_
      refine AllL.late rfl (by kernel_rfl) (fun K hK => ?_) AllL.nil
      have hne : s2 ≠ s0 := by omega
      have hne2 : s0 ≠ s2 := by omega
      have SZ := hHeld
      obtain ⟨⟨p0, pf⟩, ⟨p1, p2, p3, p4, p5⟩, -⟩ := H4.out
      have pf0 := pf 0
      have pf1 := pf 1
      have pf2 := pf 2
      have pf3 := pf 3
      clear pf
      obtain ⟨⟨q0, qf⟩, ⟨q1, q2, q3, q4, q5⟩, -⟩ := H5.out
      have qf0 := qf 0
      have qf1 := qf 1
      have qf2 := qf 2
      have qf3 := qf 3
      clear qf
      go_simp
      refine hK.out _ _ ?_
      clear hK K
      try simp only [Act.put, List.getElem_toArray, List.getElem_cons_zero, List.getElem_cons_succ, List.setIfInBounds_toArray, List.set_cons_zero, List.set_cons_succ]
      refine wpL_ready (rs := [7]) (by kernel_rfl) (by simp) ?_
      refine AllL.late rfl (by kernel_rfl) (fun K hK => ?_) AllL.nil
      go_simp
      refine hK.out _ _ ?_
      clear hK K
      try simp only [Act.put, List.getElem_toArray, List.getElem_cons_zero, List.getElem_cons_succ, List.setIfInBounds_toArray, List.set_cons_zero, List.set_cons_succ]
      refine wpL_done (by kernel_rfl) ?_ _
      exact TAIL s1 s2 s2 s3 s4 s0 ta tb _ (cs8_start SZ.out HW.out HL.out HA.out HB.out H4.out H5.out (by rw [HS4.out]; omega) (by omega)) _ _ _ _
    refine AllL.cons rfl (fun K hK => ?_) AllL.nil
    go_simp
    have HBB := Lib.hid (new1 (w := wc1) (a := .cells #[.slice none 0 0, .slice none 0 0, .slice none 0 0, .int .i64 0] 25))
    have H4 := Lib.hid (T8.new wc1)
    obtain ⟨s2, hs, le1⟩ : ∃ s, (wc1.alloc (.cells #[.slice none 0 0, .slice none 0 0, .slice none 0 0, .int .i64 0] 25)).heap.size = s ∧ s1 < s := ⟨_, rfl, by rw [size1, HS1.out]; exact Nat.lt_succ_self _⟩
    rw [HS1.out] at H4 ⊢
    replace H5 := Lib.hid (H5.out.keep HBB.out)
    have SA := Lib.hid (hHeld.out.call HBB.out)
    generalize wc1.alloc (.cells #[.slice none 0 0, .slice none 0 0, .slice none 0 0, .int .i64 0] 25) = wc2 at *
    have HS2 := Lib.hid hs
    clear hs
    refine hK.out _ _ (SA) (fun hHeld => ?_)
    clear hK K
    try simp only [Act.put, List.getElem_toArray, List.getElem_cons_zero, List.getElem_cons_succ, List.setIfInBounds_toArray, List.set_cons_zero, List.set_cons_succ]
    refine wpL_ready (rs := [1]) (by kernel_rfl) (by simp) ?_
    refine AllL.cons rfl (fun K hK => ?_) AllL.nil
    go_simp
    refine (mcopyw t0 d _ hHeld.out.2.2.2.2.1 HG.out).mono ?_
    rintro r wc3 ⟨ta, rfl, hq, ho, hb⟩
    have HBB := Lib.hid hb
    have le2 : s2 ≤ wc3.heap.size := by rw [← HS2.out]; exact hb.size
    obtain ⟨s3, hs⟩ : ∃ s, wc3.heap.size = s := ⟨_, rfl⟩
    have HS3 := Lib.hid hs
    rw [hs] at le2
    rw [HS2.out, hs] at ho
    have HA := Lib.hid (And.intro hq ho)
    clear hq ho hb hs
    replace H4 := Lib.hid (H4.out.keep HBB.out)
    replace H5 := Lib.hid (H5.out.keep HBB.out)
    go_wp2_with fail
    refine hK.out _ _ (Hsx.call HBB.out hHeld) (fun hHeld => ?_)
    clear hK K
    try simp only [Act.put, List.getElem_toArray, List.getElem_cons_zero, List.getElem_cons_succ, List.setIfInBounds_toArray, List.set_cons_zero, List.set_cons_succ]
    refine wpL_ready (rs := [3]) (by kernel_rfl) (by simp) ?_
    refine AllL.cons rfl (fun K hK => ?_) AllL.nil
    go_simp
    refine (mcopyw t0 d _ hHeld.out.2.2.2.2.1 HG.out).mono ?_
    rintro r wc4 ⟨tb, rfl, hq, ho, hb⟩
    have HBB := Lib.hid hb
    have le3 : s3 ≤ wc4.heap.size := by rw [← HS3.out]; exact hb.size
    obtain ⟨s4, hs⟩ : ∃ s, wc4.heap.size = s := ⟨_, rfl⟩
    have HS4 := Lib.hid hs
    rw [hs] at le3
    rw [HS3.out, hs] at ho
    have HB := Lib.hid (And.intro hq ho)
    clear hq ho hb hs
    replace HA := Lib.hid (And.intro (HA.out.1.keep HBB.out) (HA.out.2.keep HBB.out))
    replace H4 := Lib.hid (H4.out.keep HBB.out)
    replace H5 := Lib.hid (H5.out.keep HBB.out)
    go_wp2_with fail
    refine hK.out _ _ (Hsx.call HBB.out hHeld) (fun hHeld => ?_)
    clear hK K
    try simp only [Act.put, List.getElem_toArray, List.getElem_cons_zero, List.getElem_cons_succ, List.setIfInBounds_toArray, List.set_cons_zero, List.set_cons_succ]
    refine wpL_ready (rs := [6]) (by kernel_rfl) (by simp) ?_
    refine AllL.late rfl (by kernel_rfl) (fun K hK => ?_) AllL.nil
    have hne : s1 ≠ s0 := by omega
    have hne2 : s0 ≠ s1 := by omega
    have SZ := hHeld
    obtain ⟨⟨p0, pf⟩, ⟨p1, p2, p3, p4, p5⟩, -⟩ := H4.out
    have pf0 := pf 0
    have pf1 := pf 1
    have pf2 := pf 2
    have pf3 := pf 3
    clear pf
    obtain ⟨⟨q0, qf⟩, ⟨q1, q2, q3, q4, q5⟩, -⟩ := H5.out
    have qf0 := qf 0
    have qf1 := qf 1
    have qf2 := qf 2
    have qf3 := qf 3
    clear qf
    go_simp
    refine hK.out _ _ ?_
    clear hK K
    try simp only [Act.put, List.getElem_toArray, List.getElem_cons_zero, List.getElem_cons_succ, List.setIfInBounds_toArray, List.set_cons_zero, List.set_cons_succ]
    refine wpL_ready (rs := [7]) (by kernel_rfl) (by simp) ?_
    refine AllL.late rfl (by kernel_rfl) (fun K hK => ?_) AllL.nil
    go_simp
    refine hK.out _ _ ?_
    clear hK K
    try simp only [Act.put, List.getElem_toArray, List.getElem_cons_zero, List.getElem_cons_succ, List.setIfInBounds_toArray, List.set_cons_zero, List.set_cons_succ]
    refine wpL_done (by kernel_rfl) ?_ _
    exact TAIL s2 s3 s1 s3 s4 s0 ta tb _ (cs8_start SZ.out HW.out HL.out HA.out HB.out H4.out H5.out (by rw [HS4.out]; omega) (by omega)) _ _ _ _

end Go.Proofs.Yteimpkjpoijhmaa
