/-
  What the functions of package gauss do, each a contract for every argument.
-/
import Derived.Test.YtpeggkhbdkbjmaaFlt
import Derived.Test.YtpeggkhbdkbjmaaChecked
import Derived.WalkKit
import Derived.Below
import Derived.Handy
import Derived.Lib.Hide
import Derived.Deep.QuietTactic
import Derived.BigQuiet
import Derived.Deep.DeepCutAuto
import Derived.Deep.RegionHeld3
import Derived.WalkSpells
import Derived.WalkLawsBesides
import Derived.Deep.RegionWith
namespace Go.Proofs.Ytpeggkhbdkbjmaa
open Go.RowKit

theorem bcell {W w1 : World} (hb : Below W.heap.size W w1) : (∀ b o, b < W.heap.size → w1.cell? ⟨b, o, none⟩ = W.cell? ⟨b, o, none⟩) ∧ (∀ b o, b < W.heap.size → w1.frozen? ⟨b, o, none⟩ = W.frozen? ⟨b, o, none⟩) :=
  ⟨fun b o h => hb.cell (p := ⟨b, o, none⟩) h, fun b o h => hb.frozen (p := ⟨b, o, none⟩) h⟩
theorem below1 {w w1 : World} {a : Obj} (h : Below (w.alloc a).heap.size (w.alloc a) w1) : Below w.heap.size w w1 := ((Below.refl _ _).alloc (Nat.le_refl _) _).trans (h.mono (by simp))
theorem below2 {w w1 : World} {a b : Obj} (h : Below ((w.alloc a).alloc b).heap.size ((w.alloc a).alloc b) w1) : Below w.heap.size w w1 := below1 (below1 h)
theorem below3 {w w1 : World} {a b c : Obj} (h : Below (((w.alloc a).alloc b).alloc c).heap.size (((w.alloc a).alloc b).alloc c) w1) : Below w.heap.size w w1 := below2 (below1 h)
theorem below_set2 {B : Nat} {w w1 : World} {p q : Addr} (h : Below B w w1) (hp : B ≤ p.block) (hq : B ≤ q.block) (x y : Value) : Below B w ((w1.setCell p x).setCell q y) := (h.setCell hp _).setCell hq _
theorem new1 {w : World} {a : Obj} : Below w.heap.size w (w.alloc a) := below1 (Below.refl _ _)
theorem new3 {w : World} {a b c : Obj} : Below w.heap.size w (((w.alloc a).alloc b).alloc c) := below3 (Below.refl _ _)
theorem below_drew {w w1 : World} (h : Below w.drew.heap.size w.drew w1) : Below w.heap.size w w1 := ⟨h.os, h.tape, h.output, h.size, h.block⟩
/-- From a world that a call began in to one behind a further call. -/
theorem below_on {w w1 w2 : World} (h : Below w.heap.size w w1) (g : Below w1.heap.size w1 w2) : Below w.heap.size w w2 := h.trans (g.mono h.size)
def partB (n : Int) : Bool := decide (-1048576 ≤ n) && decide (n ≤ 1048576)
def okB (a b : Int) : Bool := partB a && partB b
theorem partB_iff {n : Int} : partB n = true ↔ -1048576 ≤ n ∧ n ≤ 1048576 := by simp [partB]
theorem okB_iff {a b : Int} : okB a b = true ↔ (-1048576 ≤ a ∧ a ≤ 1048576) ∧ -1048576 ≤ b ∧ b ≤ 1048576 := by simp [okB, partB]
def gX (g : Bool) (x : Int) : Int := if g then x else 0

theorem bounded_v (n : Int) (v : Bool) (w : World) (h : partB n = v) : Calls Try.prog 28 #[.int .i64 n] w fun e w' => e = .returned (.bool v) ∧ w = w' := by
  subst h
  by_cases h1 : -1048576 ≤ n
  · by_cases h2 : n ≤ 1048576
    · have e : partB n = true := partB_iff.2 ⟨h1, h2⟩
      rw [e]
      go_enter Try.func28, Try.ntmps28
      clear e
      go_wp2_with fail
      go_ret
      exact ⟨rfl, rfl⟩
    · have e : partB n = false := by simp [partB]; omega
      rw [e]
      clear e
      have h3 : decide (n ≤ 1048576) = false := by simpa using h2
      go_enter Try.func28, Try.ntmps28
      go_wp2_with fail
      go_ret
      exact ⟨rfl, rfl⟩
  · have e : partB n = false := by simp [partB]; omega
    rw [e]
    clear e
    have h3 : decide (-1048576 ≤ n) = false := by simpa using h1
    go_enter Try.func28, Try.ntmps28
    go_wp2_with fail
    go_ret
    exact ⟨rfl, rfl⟩

theorem may_v (a b : Int) (v : Bool) (w : World) (h : okB a b = v) : Calls Try.prog 15 #[.agg #[.int .i64 a, .int .i64 b]] w fun e w' => e = .returned (.bool v) ∧ Below w.heap.size w w' := by
  unfold okB at h
  cases ha : partB a with
  | true =>
    rw [ha, Bool.true_and] at h
    have HA := Lib.hid ha
    have HB := Lib.hid h
    clear ha h
    go_enter Try.func15, Try.ntmps15
    go_wp2_with fail
    refine (bounded_v _ _ _ HA.out).mono ?_
    rintro e w' ⟨rfl, rfl⟩
    go_wp2_with fail
    refine (bounded_v _ _ _ HB.out).mono ?_
    rintro e w' ⟨rfl, rfl⟩
    go_wp2_with fail
    go_ret
    exact ⟨rfl, (Below.refl _ _).alloc (Nat.le_refl _) _⟩
  | false =>
    rw [ha, Bool.false_and] at h
    subst h
    have HA := Lib.hid ha
    clear ha
    go_enter Try.func15, Try.ntmps15
    go_wp2_with fail
    refine (bounded_v _ _ _ HA.out).mono ?_
    rintro e w' ⟨rfl, rfl⟩
    go_wp2_with fail
    go_ret
    exact ⟨rfl, (Below.refl _ _).alloc (Nat.le_refl _) _⟩

theorem valid_t (a b : Int) (w : World) (h : okB a b = true) : Calls Try.prog 27 #[.agg #[.int .i64 a, .int .i64 b]] w fun e w' => e = .returned (.tuple #[.agg #[.int .i64 a, .int .i64 b], .bool true]) ∧ Below w.heap.size w w' := by
  have H := Lib.hid h
  clear h
  go_enter Try.func27, Try.ntmps27
  go_wp2_with fail
  refine (may_v _ _ _ _ H.out).mono ?_
  rintro e w1 ⟨rfl, hb1⟩
  obtain ⟨hc, hf⟩ := bcell hb1
  go_wp2_with fail
  exact bodyPost_ret (v := .tuple #[.agg #[.int .i64 a, .int .i64 b], .bool true]) (by simp [results, Try.results27, go_sem, hc]) rfl ⟨rfl, below_set2 (below2 hb1) (by simp) (by simp) _ _⟩
theorem valid_f (a b : Int) (w : World) (h : okB a b = false) : Calls Try.prog 27 #[.agg #[.int .i64 a, .int .i64 b]] w fun e w' => e = .returned (.tuple #[.agg #[.int .i64 0, .int .i64 0], .bool false]) ∧ Below w.heap.size w w' := by
  have H := Lib.hid h
  clear h
  go_enter Try.func27, Try.ntmps27
  go_wp2_with fail
  refine (may_v _ _ _ _ H.out).mono ?_
  rintro e w1 ⟨rfl, hb1⟩
  obtain ⟨hc, hf⟩ := bcell hb1
  go_wp2_with fail
  exact bodyPost_ret (v := .tuple #[.agg #[.int .i64 0, .int .i64 0], .bool false]) (by simp [results, Try.results27, go_sem, hc]) rfl ⟨rfl, below_set2 (below2 hb1) (by simp) (by simp) _ _⟩
theorem valid_any (a b : Int) (v : Bool) (w : World) (h : okB a b = v) : Calls Try.prog 27 #[.agg #[.int .i64 a, .int .i64 b]] w fun e w' => e = .returned (.tuple #[.agg #[.int .i64 (gX v a), .int .i64 (gX v b)], .bool v]) ∧ Below w.heap.size w w' := by
  cases v with
  | true => exact valid_t a b w h
  | false => exact valid_f a b w h
theorem cadd_any (a b c d : Int) (w : World) (h : okB a b = true) (g : okB c d = true) : Calls Try.prog 21 #[.agg #[.int .i64 a, .int .i64 b], .agg #[.int .i64 c, .int .i64 d]] w fun e w' => e = .returned (.agg #[.int .i64 (a + c), .int .i64 (b + d)]) ∧ Below w.heap.size w w' := by
  obtain ⟨⟨h1, h2⟩, h3, h4⟩ := okB_iff.1 h
  obtain ⟨⟨g1, g2⟩, g3, g4⟩ := okB_iff.1 g
  clear h g
  go_enter Try.func21, Try.ntmps21
  go_wp2_with fail
  refine bodyPost_ret (v := .agg #[.int .i64 (a + c), .int .i64 (b + d)]) (by simp [results, Try.results21, go_sem]) rfl ⟨rfl, new3⟩
theorem csub_any (a b c d : Int) (w : World) (h : okB a b = true) (g : okB c d = true) : Calls Try.prog 23 #[.agg #[.int .i64 a, .int .i64 b], .agg #[.int .i64 c, .int .i64 d]] w fun e w' => e = .returned (.agg #[.int .i64 (a - c), .int .i64 (b - d)]) ∧ Below w.heap.size w w' := by
  obtain ⟨⟨h1, h2⟩, h3, h4⟩ := okB_iff.1 h
  obtain ⟨⟨g1, g2⟩, g3, g4⟩ := okB_iff.1 g
  clear h g
  go_enter Try.func23, Try.ntmps23
  go_wp2_with fail
  refine bodyPost_ret (v := .agg #[.int .i64 (a - c), .int .i64 (b - d)]) (by simp [results, Try.results23, go_sem]) rfl ⟨rfl, new3⟩
theorem number_any (a b : Int) (w : World) : Calls Try.prog 26 #[.agg #[.int .i64 a, .int .i64 b]] w fun e w' => e = .returned (.complex .f64 (floatOfInt .f64 a) (floatOfInt .f64 b)) ∧ Below w.heap.size w w' := by
  go_enter Try.func26, Try.ntmps26
  go_wp2_with fail
  go_ret
  exact ⟨rfl, (Below.refl _ _).alloc (Nat.le_refl _) _⟩
theorem pair_any (x y : Nat) (a b : Int) (w : World) (hx : floatToIntVal .f64 x .i64 = some a) (hy : floatToIntVal .f64 y .i64 = some b) : Calls Try.prog 25 #[.complex .f64 x y] w fun e w' => e = .returned (.agg #[.int .i64 a, .int .i64 b]) ∧ Below w.heap.size w w' := by
  have r1 : ∀ wx : World, (convert 45 2 (.float .f64 x)).run Try.prog wx = .ok (.int .i64 a) wx := fun wx => run_convert_float_int wx _ _ _ _ _ _ rfl Try.underlying2 hx
  have r2 : ∀ wx : World, (convert 45 2 (.float .f64 y)).run Try.prog wx = .ok (.int .i64 b) wx := fun wx => run_convert_float_int wx _ _ _ _ _ _ rfl Try.underlying2 hy
  clear hx hy
  go_enter Try.func25, Try.ntmps25
  go_wp2_with fail
  refine bodyPost_ret (v := .agg #[.int .i64 a, .int .i64 b]) (by simp [results, Try.results25, go_sem]) rfl ⟨rfl, new1⟩

theorem natAbs_le {a b : Int} (h : -1048576 ≤ a ∧ a ≤ 1048576) (g : -1048576 ≤ b ∧ b ≤ 1048576) : (a * b).natAbs ≤ 1099511627776 := by
  rw [Int.natAbs_mul, show (1099511627776 : Nat) = 1048576 * 1048576 from rfl]
  exact Nat.mul_le_mul (by omega) (by omega)
/-- The product, as the closure works it out. -/
theorem cmul_facts {a b c d : Int} (h : okB a b = true) (g : okB c d = true) : ∃ re im, cMulBits (floatOfInt .f64 a) (floatOfInt .f64 b) (floatOfInt .f64 c) (floatOfInt .f64 d) = some (re, im) ∧
    floatToIntVal .f64 re .i64 = some (a * c - b * d) ∧ floatToIntVal .f64 im .i64 = some (a * d + b * c) := by
  obtain ⟨ha, hb⟩ := okB_iff.1 h
  obtain ⟨hc, hd⟩ := okB_iff.1 g
  have e1 := natAbs_le ha hc
  have e2 := natAbs_le hb hd
  have e3 := natAbs_le ha hd
  have e4 := natAbs_le hb hc
  obtain ⟨re, im, e, f1, f2⟩ := FR.cmul (FR.of a (by omega)) (FR.of b (by omega)) (FR.of c (by omega)) (FR.of d (by omega)) (by omega) (by omega) (by omega) (by omega)
  exact ⟨re, im, e, FR.int f1 (by omega) (by omega), FR.int f2 (by omega) (by omega)⟩
set_option linter.unusedSimpArgs false in
set_option maxHeartbeats 1000000 in
theorem cmul_any (a b c d : Int) (w : World) (h : okB a b = true) (g : okB c d = true) : Calls Try.prog 24 #[.agg #[.int .i64 a, .int .i64 b], .agg #[.int .i64 c, .int .i64 d]] w fun e w' => e = .returned (.agg #[.int .i64 (a * c - b * d), .int .i64 (a * d + b * c)]) ∧ Below w.heap.size w w' := by
  obtain ⟨re, im, hm, hx, hy⟩ := cmul_facts h g
  have r : ∀ wx : World, (binOp .mul 42 (.complex .f64 (floatOfInt .f64 a) (floatOfInt .f64 b)) (.complex .f64 (floatOfInt .f64 c) (floatOfInt .f64 d))).run Try.prog wx = .ok (.complex .f64 re im) wx := fun wx => run_complex_mul wx _ _ _ _ _ _ _ hm
  have HX := Lib.hid hx
  have HY := Lib.hid hy
  clear hm hx hy h g
  go_enter Try.func24, Try.ntmps24
  go_wp2_with fail
  go_region_with (first | (go_at_call 26; (with_reducible refine (number_any a b _).mono ?_); rintro e w1 ⟨rfl, hb1⟩; obtain ⟨hc1, hf1⟩ := bcell hb1; have hz1 : w.heap.size + 2 < w1.heap.size := by have := hb1.size; first | omega | (simp at this; omega)) | (go_at_call 26; (with_reducible refine (number_any c d _).mono ?_); rintro e w2 ⟨rfl, hb2⟩; obtain ⟨hc2, hf2⟩ := bcell hb2; have hz2 : w.heap.size + 2 < w2.heap.size := by have := hb2.size; first | omega | (simp at this; omega)) | (go_at_call 25; (with_reducible refine (pair_any _ _ _ _ _ HX.out HY.out).mono ?_); rintro e w3 ⟨rfl, hb3⟩; obtain ⟨hc3, hf3⟩ := bcell hb3; have hz3 : w.heap.size + 2 < w3.heap.size := by have := hb3.size; first | omega | (simp at this; omega)))
  all_goals
    go_wp2
    refine bodyPost_ret (v := .agg #[.int .i64 (a * c - b * d), .int .i64 (a * d + b * c)]) (by simp [results, Try.results24, go_sem, hc1, hc2, hc3, hz1, hz2, hz3]) rfl ⟨rfl, below_set2 ?_ (by simp; omega) (by simp; omega) _ _⟩
    first | exact below3 (below_drew (below_on (below_on hb1 hb2) hb3)) | exact below3 (below_drew (below_on (below_on hb2 hb1) hb3))
end Go.Proofs.Ytpeggkhbdkbjmaa
