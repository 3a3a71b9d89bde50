/-
  What gauss.combine does with each of the three operations, and Add, Sub, Mul, Conj, Measure: a contract for every argument.
-/
import Derived.Test.YtpeggkhbdkbjmaaGauss
namespace Go.Proofs.Ytpeggkhbdkbjmaa
open Go.RowKit

def addI (a b c d : Int) : Bool := okB a b && okB c d && okB (a + c) (b + d)
def subI (a b c d : Int) : Bool := okB a b && okB c d && okB (a - c) (b - d)
def mulI (a b c d : Int) : Bool := okB a b && okB c d && okB (a * c - b * d) (a * d + b * c)
theorem new2 {w : World} {a b : Obj} : Below w.heap.size w ((w.alloc a).alloc b) := below2 (Below.refl _ _)

theorem comb_add_1 (a b c d : Int) (w : World) (h : okB a b = false) : Calls Try.prog 20 #[.agg #[.int .i64 a, .int .i64 b], .agg #[.int .i64 c, .int .i64 d], .func (.func 21) #[] #[]] w fun e w' => e = .returned (.tuple #[.agg #[.int .i64 0, .int .i64 0], .bool false]) ∧ Below w.heap.size w w' := by
  have H := Lib.hid h
  clear h
  go_enter Try.func20, Try.ntmps20
  go_wp2_with fail
  refine (may_v _ _ _ _ H.out).mono ?_
  rintro e w1 ⟨rfl, hb1⟩
  obtain ⟨hc1, hf1⟩ := bcell hb1
  go_wp2_with fail
  exact bodyPost_ret (v := .tuple #[.agg #[.int .i64 0, .int .i64 0], .bool false]) (by simp [results, Try.results20, go_sem, hc1]) rfl ⟨rfl, below_set2 (below3 hb1) (by simp; omega) (by simp; omega) _ _⟩
theorem comb_add_2 (a b c d : Int) (w : World) (h : okB a b = true) (g : okB c d = false) : Calls Try.prog 20 #[.agg #[.int .i64 a, .int .i64 b], .agg #[.int .i64 c, .int .i64 d], .func (.func 21) #[] #[]] w fun e w' => e = .returned (.tuple #[.agg #[.int .i64 0, .int .i64 0], .bool false]) ∧ Below w.heap.size w w' := by
  have H := Lib.hid h
  have G := Lib.hid g
  clear h g
  go_enter Try.func20, Try.ntmps20
  go_wp2_with fail
  refine (may_v _ _ _ _ H.out).mono ?_
  rintro e w1 ⟨rfl, hb1⟩
  obtain ⟨hc1, hf1⟩ := bcell hb1
  go_wp2_with fail
  refine (may_v _ _ _ _ G.out).mono ?_
  rintro e w2 ⟨rfl, hb2⟩
  have hb2 := below_on hb1 hb2
  obtain ⟨hc2, hf2⟩ := bcell hb2
  clear hc1 hf1 hb1
  go_wp2_with fail
  exact bodyPost_ret (v := .tuple #[.agg #[.int .i64 0, .int .i64 0], .bool false]) (by simp [results, Try.results20, go_sem, hc2]) rfl ⟨rfl, below_set2 (below3 hb2) (by simp; omega) (by simp; omega) _ _⟩
theorem comb_add_3 (a b c d : Int) (v : Bool) (w : World) (h : okB a b = true) (g : okB c d = true) (k : okB (a + c) (b + d) = v) : Calls Try.prog 20 #[.agg #[.int .i64 a, .int .i64 b], .agg #[.int .i64 c, .int .i64 d], .func (.func 21) #[] #[]] w fun e w' => e = .returned (.tuple #[.agg #[.int .i64 (gX v (a + c)), .int .i64 (gX v (b + d))], .bool v]) ∧ Below w.heap.size w w' := by
  have H := Lib.hid h
  have G := Lib.hid g
  have K := Lib.hid k
  clear h g k
  go_enter Try.func20, Try.ntmps20
  go_wp2_with fail
  refine (may_v _ _ _ _ H.out).mono ?_
  rintro e w1 ⟨rfl, hb1⟩
  obtain ⟨hc1, hf1⟩ := bcell hb1
  go_wp2_with fail
  refine (may_v _ _ _ _ G.out).mono ?_
  rintro e w2 ⟨rfl, hb2⟩
  have hb2 := below_on hb1 hb2
  obtain ⟨hc2, hf2⟩ := bcell hb2
  clear hc1 hf1 hb1
  go_wp2_with fail
  refine (cadd_any _ _ _ _ _ H.out G.out).mono ?_
  rintro e w3 ⟨rfl, hb3⟩
  have hb3 := below_on hb2 hb3
  obtain ⟨hc3, hf3⟩ := bcell hb3
  clear hc2 hf2 hb2
  go_wp2_with fail
  refine (valid_any _ _ _ _ K.out).mono ?_
  rintro e w4 ⟨rfl, hb4⟩
  have hb4 := below_on hb3 hb4
  obtain ⟨hc4, hf4⟩ := bcell hb4
  clear hc3 hf3 hb3
  go_wp2_with fail
  exact bodyPost_ret (v := .tuple #[.agg #[.int .i64 (gX v (a + c)), .int .i64 (gX v (b + d))], .bool v]) (by simp [results, Try.results20, go_sem, hc4]) rfl ⟨rfl, below_set2 (below3 hb4) (by simp; omega) (by simp; omega) _ _⟩
theorem comb_add (a b c d : Int) (v : Bool) (w : World) (h : addI a b c d = v) : Calls Try.prog 20 #[.agg #[.int .i64 a, .int .i64 b], .agg #[.int .i64 c, .int .i64 d], .func (.func 21) #[] #[]] w fun e w' => e = .returned (.tuple #[.agg #[.int .i64 (gX v (a + c)), .int .i64 (gX v (b + d))], .bool v]) ∧ Below w.heap.size w w' := by
  unfold addI at h
  cases h1 : okB a b with
  | false =>
    rw [h1] at h
    simp only [Bool.false_and] at h
    subst h
    exact comb_add_1 a b c d w h1
  | true =>
    cases h2 : okB c d with
    | false =>
      rw [h1, h2] at h
      simp only [Bool.true_and, Bool.false_and] at h
      subst h
      exact comb_add_2 a b c d w h1 h2
    | true =>
      rw [h1, h2] at h
      simp only [Bool.true_and] at h
      exact comb_add_3 a b c d v w h1 h2 h
theorem add_v (a b c d : Int) (v : Bool) (w : World) (h : addI a b c d = v) : Calls Try.prog 7 #[.agg #[.int .i64 a, .int .i64 b], .agg #[.int .i64 c, .int .i64 d]] w fun e w' => e = .returned (.tuple #[.agg #[.int .i64 (gX v (a + c)), .int .i64 (gX v (b + d))], .bool v]) ∧ Below w.heap.size w w' := by
  have H := Lib.hid h
  clear h
  go_enter Try.func7, Try.ntmps7
  go_wp2_with fail
  refine (comb_add _ _ _ _ _ _ H.out).mono ?_
  rintro e w1 ⟨rfl, hb1⟩
  obtain ⟨hc1, hf1⟩ := bcell hb1
  go_wp2_with fail
  exact bodyPost_ret (v := .tuple #[.agg #[.int .i64 (gX v (a + c)), .int .i64 (gX v (b + d))], .bool v]) (by simp [results, Try.results7, go_sem, hc1]) rfl ⟨rfl, below_set2 (below3 hb1) (by simp; omega) (by simp; omega) _ _⟩

theorem comb_sub_1 (a b c d : Int) (w : World) (h : okB a b = false) : Calls Try.prog 20 #[.agg #[.int .i64 a, .int .i64 b], .agg #[.int .i64 c, .int .i64 d], .func (.func 23) #[] #[]] w fun e w' => e = .returned (.tuple #[.agg #[.int .i64 0, .int .i64 0], .bool false]) ∧ Below w.heap.size w w' := by
  have H := Lib.hid h
  clear h
  go_enter Try.func20, Try.ntmps20
  go_wp2_with fail
  refine (may_v _ _ _ _ H.out).mono ?_
  rintro e w1 ⟨rfl, hb1⟩
  obtain ⟨hc1, hf1⟩ := bcell hb1
  go_wp2_with fail
  exact bodyPost_ret (v := .tuple #[.agg #[.int .i64 0, .int .i64 0], .bool false]) (by simp [results, Try.results20, go_sem, hc1]) rfl ⟨rfl, below_set2 (below3 hb1) (by simp; omega) (by simp; omega) _ _⟩
theorem comb_sub_2 (a b c d : Int) (w : World) (h : okB a b = true) (g : okB c d = false) : Calls Try.prog 20 #[.agg #[.int .i64 a, .int .i64 b], .agg #[.int .i64 c, .int .i64 d], .func (.func 23) #[] #[]] w fun e w' => e = .returned (.tuple #[.agg #[.int .i64 0, .int .i64 0], .bool false]) ∧ Below w.heap.size w w' := by
  have H := Lib.hid h
  have G := Lib.hid g
  clear h g
  go_enter Try.func20, Try.ntmps20
  go_wp2_with fail
  refine (may_v _ _ _ _ H.out).mono ?_
  rintro e w1 ⟨rfl, hb1⟩
  obtain ⟨hc1, hf1⟩ := bcell hb1
  go_wp2_with fail
  refine (may_v _ _ _ _ G.out).mono ?_
  rintro e w2 ⟨rfl, hb2⟩
  have hb2 := below_on hb1 hb2
  obtain ⟨hc2, hf2⟩ := bcell hb2
  clear hc1 hf1 hb1
  go_wp2_with fail
  exact bodyPost_ret (v := .tuple #[.agg #[.int .i64 0, .int .i64 0], .bool false]) (by simp [results, Try.results20, go_sem, hc2]) rfl ⟨rfl, below_set2 (below3 hb2) (by simp; omega) (by simp; omega) _ _⟩
theorem comb_sub_3 (a b c d : Int) (v : Bool) (w : World) (h : okB a b = true) (g : okB c d = true) (k : okB (a - c) (b - d) = v) : Calls Try.prog 20 #[.agg #[.int .i64 a, .int .i64 b], .agg #[.int .i64 c, .int .i64 d], .func (.func 23) #[] #[]] w fun e w' => e = .returned (.tuple #[.agg #[.int .i64 (gX v (a - c)), .int .i64 (gX v (b - d))], .bool v]) ∧ Below w.heap.size w w' := by
  have H := Lib.hid h
  have G := Lib.hid g
  have K := Lib.hid k
  clear h g k
  go_enter Try.func20, Try.ntmps20
  go_wp2_with fail
  refine (may_v _ _ _ _ H.out).mono ?_
  rintro e w1 ⟨rfl, hb1⟩
  obtain ⟨hc1, hf1⟩ := bcell hb1
  go_wp2_with fail
  refine (may_v _ _ _ _ G.out).mono ?_
  rintro e w2 ⟨rfl, hb2⟩
  have hb2 := below_on hb1 hb2
  obtain ⟨hc2, hf2⟩ := bcell hb2
  clear hc1 hf1 hb1
  go_wp2_with fail
  refine (csub_any _ _ _ _ _ H.out G.out).mono ?_
  rintro e w3 ⟨rfl, hb3⟩
  have hb3 := below_on hb2 hb3
  obtain ⟨hc3, hf3⟩ := bcell hb3
  clear hc2 hf2 hb2
  go_wp2_with fail
  refine (valid_any _ _ _ _ K.out).mono ?_
  rintro e w4 ⟨rfl, hb4⟩
  have hb4 := below_on hb3 hb4
  obtain ⟨hc4, hf4⟩ := bcell hb4
  clear hc3 hf3 hb3
  go_wp2_with fail
  exact bodyPost_ret (v := .tuple #[.agg #[.int .i64 (gX v (a - c)), .int .i64 (gX v (b - d))], .bool v]) (by simp [results, Try.results20, go_sem, hc4]) rfl ⟨rfl, below_set2 (below3 hb4) (by simp; omega) (by simp; omega) _ _⟩
theorem comb_sub (a b c d : Int) (v : Bool) (w : World) (h : subI a b c d = v) : Calls Try.prog 20 #[.agg #[.int .i64 a, .int .i64 b], .agg #[.int .i64 c, .int .i64 d], .func (.func 23) #[] #[]] w fun e w' => e = .returned (.tuple #[.agg #[.int .i64 (gX v (a - c)), .int .i64 (gX v (b - d))], .bool v]) ∧ Below w.heap.size w w' := by
  unfold subI at h
  cases h1 : okB a b with
  | false =>
    rw [h1] at h
    simp only [Bool.false_and] at h
    subst h
    exact comb_sub_1 a b c d w h1
  | true =>
    cases h2 : okB c d with
    | false =>
      rw [h1, h2] at h
      simp only [Bool.true_and, Bool.false_and] at h
      subst h
      exact comb_sub_2 a b c d w h1 h2
    | true =>
      rw [h1, h2] at h
      simp only [Bool.true_and] at h
      exact comb_sub_3 a b c d v w h1 h2 h
theorem sub_v (a b c d : Int) (v : Bool) (w : World) (h : subI a b c d = v) : Calls Try.prog 9 #[.agg #[.int .i64 a, .int .i64 b], .agg #[.int .i64 c, .int .i64 d]] w fun e w' => e = .returned (.tuple #[.agg #[.int .i64 (gX v (a - c)), .int .i64 (gX v (b - d))], .bool v]) ∧ Below w.heap.size w w' := by
  have H := Lib.hid h
  clear h
  go_enter Try.func9, Try.ntmps9
  go_wp2_with fail
  refine (comb_sub _ _ _ _ _ _ H.out).mono ?_
  rintro e w1 ⟨rfl, hb1⟩
  obtain ⟨hc1, hf1⟩ := bcell hb1
  go_wp2_with fail
  exact bodyPost_ret (v := .tuple #[.agg #[.int .i64 (gX v (a - c)), .int .i64 (gX v (b - d))], .bool v]) (by simp [results, Try.results9, go_sem, hc1]) rfl ⟨rfl, below_set2 (below3 hb1) (by simp; omega) (by simp; omega) _ _⟩

theorem comb_mul_1 (a b c d : Int) (w : World) (h : okB a b = false) : Calls Try.prog 20 #[.agg #[.int .i64 a, .int .i64 b], .agg #[.int .i64 c, .int .i64 d], .func (.func 24) #[] #[]] w fun e w' => e = .returned (.tuple #[.agg #[.int .i64 0, .int .i64 0], .bool false]) ∧ Below w.heap.size w w' := by
  have H := Lib.hid h
  clear h
  go_enter Try.func20, Try.ntmps20
  go_wp2_with fail
  refine (may_v _ _ _ _ H.out).mono ?_
  rintro e w1 ⟨rfl, hb1⟩
  obtain ⟨hc1, hf1⟩ := bcell hb1
  go_wp2_with fail
  exact bodyPost_ret (v := .tuple #[.agg #[.int .i64 0, .int .i64 0], .bool false]) (by simp [results, Try.results20, go_sem, hc1]) rfl ⟨rfl, below_set2 (below3 hb1) (by simp; omega) (by simp; omega) _ _⟩
theorem comb_mul_2 (a b c d : Int) (w : World) (h : okB a b = true) (g : okB c d = false) : Calls Try.prog 20 #[.agg #[.int .i64 a, .int .i64 b], .agg #[.int .i64 c, .int .i64 d], .func (.func 24) #[] #[]] w fun e w' => e = .returned (.tuple #[.agg #[.int .i64 0, .int .i64 0], .bool false]) ∧ Below w.heap.size w w' := by
  have H := Lib.hid h
  have G := Lib.hid g
  clear h g
  go_enter Try.func20, Try.ntmps20
  go_wp2_with fail
  refine (may_v _ _ _ _ H.out).mono ?_
  rintro e w1 ⟨rfl, hb1⟩
  obtain ⟨hc1, hf1⟩ := bcell hb1
  go_wp2_with fail
  refine (may_v _ _ _ _ G.out).mono ?_
  rintro e w2 ⟨rfl, hb2⟩
  have hb2 := below_on hb1 hb2
  obtain ⟨hc2, hf2⟩ := bcell hb2
  clear hc1 hf1 hb1
  go_wp2_with fail
  exact bodyPost_ret (v := .tuple #[.agg #[.int .i64 0, .int .i64 0], .bool false]) (by simp [results, Try.results20, go_sem, hc2]) rfl ⟨rfl, below_set2 (below3 hb2) (by simp; omega) (by simp; omega) _ _⟩
theorem comb_mul_3 (a b c d : Int) (v : Bool) (w : World) (h : okB a b = true) (g : okB c d = true) (k : okB (a * c - b * d) (a * d + b * c) = v) : Calls Try.prog 20 #[.agg #[.int .i64 a, .int .i64 b], .agg #[.int .i64 c, .int .i64 d], .func (.func 24) #[] #[]] w fun e w' => e = .returned (.tuple #[.agg #[.int .i64 (gX v (a * c - b * d)), .int .i64 (gX v (a * d + b * c))], .bool v]) ∧ Below w.heap.size w w' := by
  have H := Lib.hid h
  have G := Lib.hid g
  have K := Lib.hid k
  clear h g k
  go_enter Try.func20, Try.ntmps20
  go_wp2_with fail
  refine (may_v _ _ _ _ H.out).mono ?_
  rintro e w1 ⟨rfl, hb1⟩
  obtain ⟨hc1, hf1⟩ := bcell hb1
  go_wp2_with fail
  refine (may_v _ _ _ _ G.out).mono ?_
  rintro e w2 ⟨rfl, hb2⟩
  have hb2 := below_on hb1 hb2
  obtain ⟨hc2, hf2⟩ := bcell hb2
  clear hc1 hf1 hb1
  go_wp2_with fail
  refine (cmul_any _ _ _ _ _ H.out G.out).mono ?_
  rintro e w3 ⟨rfl, hb3⟩
  have hb3 := below_on hb2 hb3
  obtain ⟨hc3, hf3⟩ := bcell hb3
  clear hc2 hf2 hb2
  go_wp2_with fail
  refine (valid_any _ _ _ _ K.out).mono ?_
  rintro e w4 ⟨rfl, hb4⟩
  have hb4 := below_on hb3 hb4
  obtain ⟨hc4, hf4⟩ := bcell hb4
  clear hc3 hf3 hb3
  go_wp2_with fail
  exact bodyPost_ret (v := .tuple #[.agg #[.int .i64 (gX v (a * c - b * d)), .int .i64 (gX v (a * d + b * c))], .bool v]) (by simp [results, Try.results20, go_sem, hc4]) rfl ⟨rfl, below_set2 (below3 hb4) (by simp; omega) (by simp; omega) _ _⟩
theorem comb_mul (a b c d : Int) (v : Bool) (w : World) (h : mulI a b c d = v) : Calls Try.prog 20 #[.agg #[.int .i64 a, .int .i64 b], .agg #[.int .i64 c, .int .i64 d], .func (.func 24) #[] #[]] w fun e w' => e = .returned (.tuple #[.agg #[.int .i64 (gX v (a * c - b * d)), .int .i64 (gX v (a * d + b * c))], .bool v]) ∧ Below w.heap.size w w' := by
  unfold mulI at h
  cases h1 : okB a b with
  | false =>
    rw [h1] at h
    simp only [Bool.false_and] at h
    subst h
    exact comb_mul_1 a b c d w h1
  | true =>
    cases h2 : okB c d with
    | false =>
      rw [h1, h2] at h
      simp only [Bool.true_and, Bool.false_and] at h
      subst h
      exact comb_mul_2 a b c d w h1 h2
    | true =>
      rw [h1, h2] at h
      simp only [Bool.true_and] at h
      exact comb_mul_3 a b c d v w h1 h2 h
theorem mul_v (a b c d : Int) (v : Bool) (w : World) (h : mulI a b c d = v) : Calls Try.prog 11 #[.agg #[.int .i64 a, .int .i64 b], .agg #[.int .i64 c, .int .i64 d]] w fun e w' => e = .returned (.tuple #[.agg #[.int .i64 (gX v (a * c - b * d)), .int .i64 (gX v (a * d + b * c))], .bool v]) ∧ Below w.heap.size w w' := by
  have H := Lib.hid h
  clear h
  go_enter Try.func11, Try.ntmps11
  go_wp2_with fail
  refine (comb_mul _ _ _ _ _ _ H.out).mono ?_
  rintro e w1 ⟨rfl, hb1⟩
  obtain ⟨hc1, hf1⟩ := bcell hb1
  go_wp2_with fail
  exact bodyPost_ret (v := .tuple #[.agg #[.int .i64 (gX v (a * c - b * d)), .int .i64 (gX v (a * d + b * c))], .bool v]) (by simp [results, Try.results11, go_sem, hc1]) rfl ⟨rfl, below_set2 (below3 hb1) (by simp; omega) (by simp; omega) _ _⟩

theorem neg_ok {a b : Int} : okB a (-b) = okB a b := by
  rw [Bool.eq_iff_iff, okB_iff, okB_iff]; omega
theorem conj_v (a b : Int) (v : Bool) (w : World) (h : okB a b = v) (hm : -9223372036854775808 ≤ b ∧ b ≤ 9223372036854775807) : Calls Try.prog 13 #[.agg #[.int .i64 a, .int .i64 b]] w fun e w' => e = .returned (.tuple #[.agg #[.int .i64 (gX v a), .int .i64 (gX v (-b))], .bool v]) ∧ Below w.heap.size w w' := by
  have hk : okB a (wrap64 (-b)) = v ∧ gX v (wrap64 (-b)) = gX v (-b) := by
    by_cases hb : b = -9223372036854775808
    · subst hb
      have e : wrap64 (-(-9223372036854775808)) = -9223372036854775808 := by unfold wrap64; omega
      rw [e]
      have hv : v = false := by
        rw [← h, Bool.eq_false_iff]
        intro hh
        have := (okB_iff.1 hh).2
        omega
      subst hv
      exact ⟨h, rfl⟩
    · rw [IntWalk.wrap64_in (-b) (by omega)]
      exact ⟨by rw [neg_ok]; exact h, rfl⟩
  clear h
  have HK := Lib.hid hk
  clear hk
  go_enter Try.func13, Try.ntmps13
  go_wp2_with fail
  refine (valid_any _ _ _ _ HK.out.1).mono ?_
  rintro e w1 ⟨rfl, hb1⟩
  rw [HK.out.2]
  obtain ⟨hc1, hf1⟩ := bcell hb1
  go_wp2_with fail
  exact bodyPost_ret (v := .tuple #[.agg #[.int .i64 (gX v a), .int .i64 (gX v (-b))], .bool v]) (by simp [results, Try.results13, go_sem, hc1]) rfl ⟨rfl, below_set2 (below2 hb1) (by simp) (by simp) _ _⟩
theorem measure_f (a b : Int) (w : World) (h : okB a b = false) : Calls Try.prog 17 #[.agg #[.int .i64 a, .int .i64 b]] w fun e w' => e = .returned (.int .i64 (-1)) ∧ Below w.heap.size w w' := by
  have H := Lib.hid h
  clear h
  go_enter Try.func17, Try.ntmps17
  go_wp2_with fail
  refine (may_v _ _ _ _ H.out).mono ?_
  rintro e w1 ⟨rfl, hb1⟩
  obtain ⟨hc1, hf1⟩ := bcell hb1
  go_wp2_with fail
  go_ret
  exact ⟨rfl, below1 hb1⟩
theorem sq_le {a : Int} (h : -1048576 ≤ a ∧ a ≤ 1048576) : 0 ≤ a * a ∧ a * a ≤ 1099511627776 := by
  have := natAbs_le h h
  have h0 : 0 ≤ a * a := by
    rcases Int.le_total 0 a with h1 | h1
    · exact Int.mul_nonneg h1 h1
    · exact Int.mul_nonneg_of_nonpos_of_nonpos h1 h1
  omega
theorem measure_t (a b : Int) (w : World) (h : okB a b = true) : Calls Try.prog 17 #[.agg #[.int .i64 a, .int .i64 b]] w fun e w' => e = .returned (.int .i64 (a * a + b * b)) ∧ Below w.heap.size w w' := by
  have H := Lib.hid h
  obtain ⟨h1, h2⟩ := okB_iff.1 h
  have e1 := sq_le h1
  have e2 := sq_le h2
  obtain ⟨x, hx⟩ : ∃ x, x = a * a := ⟨_, rfl⟩
  obtain ⟨y, hy⟩ : ∃ y, y = b * b := ⟨_, rfl⟩
  have rx : IntKind.i64.wrap (a * a) = x := by rw [hx]; exact IntWalk.i64_in _ (by omega)
  have ry : IntKind.i64.wrap (b * b) = y := by rw [hy]; exact IntWalk.i64_in _ (by omega)
  rw [← hx, ← hy]
  rw [← hx] at e1
  rw [← hy] at e2
  clear h h1 h2 hx hy
  go_enter Try.func17, Try.ntmps17
  go_wp2_with fail
  refine (may_v _ _ _ _ H.out).mono ?_
  rintro e w1 ⟨rfl, hb1⟩
  obtain ⟨hc1, hf1⟩ := bcell hb1
  go_wp2_with fail
  go_ret
  exact ⟨rfl, below1 hb1⟩
def meas (a b : Int) : Int := if okB a b then a * a + b * b else -1
theorem measure_any (a b : Int) (w : World) : Calls Try.prog 17 #[.agg #[.int .i64 a, .int .i64 b]] w fun e w' => e = .returned (.int .i64 (meas a b)) ∧ Below w.heap.size w w' := by
  cases h : okB a b with
  | true => have := measure_t a b w h; simpa only [meas, h, if_true] using this
  | false => have := measure_f a b w h; simpa only [meas, h, Bool.false_eq_true, if_false] using this
end Go.Proofs.Ytpeggkhbdkbjmaa
