/-
  What the document's own answers for layer 2 (capstanref02) are: a contract for every argument.
-/
import Derived.Test.YtpeggkhbdkbjmaaComb
namespace Go.Proofs.Ytpeggkhbdkbjmaa
open Go.RowKit

theorem rmay_t (a b : Int) (w : World) (h : okB a b = true) : Calls Try.prog 16 #[.int .i64 a, .int .i64 b] w fun e w' => e = .returned (.bool true) ∧ w = w' := by
  obtain ⟨⟨h1, h2⟩, h3, h4⟩ := okB_iff.1 h
  clear h
  go_enter Try.func16, Try.ntmps16
  go_wp2_with fail
  go_ret
  exact ⟨rfl, rfl⟩
theorem rmay_f (a b : Int) (w : World) (h : okB a b = false) : Calls Try.prog 16 #[.int .i64 a, .int .i64 b] w fun e w' => e = .returned (.bool false) ∧ w = w' := by
  have hn : ¬ ((-1048576 ≤ a ∧ a ≤ 1048576) ∧ -1048576 ≤ b ∧ b ≤ 1048576) := fun hh => by rw [okB_iff.2 hh] at h; cases h
  clear h
  by_cases h1 : -1048576 ≤ a
  · by_cases h2 : a ≤ 1048576
    · by_cases h3 : -1048576 ≤ b
      · have h4 : decide (b ≤ 1048576) = false := by simp; omega
        clear hn
        go_enter Try.func16, Try.ntmps16
        go_wp2_with fail
        go_ret
        exact ⟨rfl, rfl⟩
      · have h4 : decide (-1048576 ≤ b) = false := by simp; omega
        clear hn
        go_enter Try.func16, Try.ntmps16
        go_wp2_with fail
        go_ret
        exact ⟨rfl, rfl⟩
    · have h4 : decide (a ≤ 1048576) = false := by simp; omega
      clear hn
      go_enter Try.func16, Try.ntmps16
      go_wp2_with fail
      go_ret
      exact ⟨rfl, rfl⟩
  · have h4 : decide (-1048576 ≤ a) = false := by simp; omega
    clear hn
    go_enter Try.func16, Try.ntmps16
    go_wp2_with fail
    go_ret
    exact ⟨rfl, rfl⟩
theorem rmay_v (a b : Int) (v : Bool) (w : World) (h : okB a b = v) : Calls Try.prog 16 #[.int .i64 a, .int .i64 b] w fun e w' => e = .returned (.bool v) ∧ w = w' := by
  cases v with
  | true => exact rmay_t a b w h
  | false => exact rmay_f a b w h
theorem told_t (a b : Int) (w : World) (h : okB a b = true) : Calls Try.prog 22 #[.int .i64 a, .int .i64 b] w fun e w' => e = .returned (.tuple #[.int .i64 a, .int .i64 b, .bool true]) ∧ w = w' := by
  have H := Lib.hid h
  clear h
  go_enter Try.func22, Try.ntmps22
  go_wp2_with fail
  refine (rmay_v _ _ _ _ H.out).mono ?_
  rintro e w1 ⟨rfl, rfl⟩
  go_wp2_with fail
  go_ret3
  exact ⟨rfl, rfl⟩
theorem told_f (a b : Int) (w : World) (h : okB a b = false) : Calls Try.prog 22 #[.int .i64 a, .int .i64 b] w fun e w' => e = .returned (.tuple #[.int .i64 0, .int .i64 0, .bool false]) ∧ w = w' := by
  have H := Lib.hid h
  clear h
  go_enter Try.func22, Try.ntmps22
  go_wp2_with fail
  refine (rmay_v _ _ _ _ H.out).mono ?_
  rintro e w1 ⟨rfl, rfl⟩
  go_wp2_with fail
  go_ret3
  exact ⟨rfl, rfl⟩
theorem told_v (a b : Int) (v : Bool) (w : World) (h : okB a b = v) : Calls Try.prog 22 #[.int .i64 a, .int .i64 b] w fun e w' => e = .returned (.tuple #[.int .i64 (gX v a), .int .i64 (gX v b), .bool v]) ∧ w = w' := by
  cases v with
  | true => exact told_t a b w h
  | false => exact told_f a b w h

theorem radd_1 (a b c d : Int) (w : World) (h : okB a b = false) : Calls Try.prog 8 #[.int .i64 a, .int .i64 b, .int .i64 c, .int .i64 d] w fun e w' => e = .returned (.tuple #[.int .i64 0, .int .i64 0, .bool false]) ∧ w = w' := by
  have H := Lib.hid h
  clear h
  go_enter Try.func8, Try.ntmps8
  go_wp2_with fail
  refine (rmay_v _ _ _ _ H.out).mono ?_
  rintro e w1 ⟨rfl, rfl⟩
  go_wp2_with fail
  go_ret3
  exact ⟨rfl, rfl⟩
theorem radd_2 (a b c d : Int) (w : World) (h : okB a b = true) (g : okB c d = false) : Calls Try.prog 8 #[.int .i64 a, .int .i64 b, .int .i64 c, .int .i64 d] w fun e w' => e = .returned (.tuple #[.int .i64 0, .int .i64 0, .bool false]) ∧ w = w' := by
  have H := Lib.hid h
  have G := Lib.hid g
  clear h g
  go_enter Try.func8, Try.ntmps8
  go_wp2_with fail
  refine (rmay_v _ _ _ _ H.out).mono ?_
  rintro e w1 ⟨rfl, rfl⟩
  go_wp2_with fail
  refine (rmay_v _ _ _ _ G.out).mono ?_
  rintro e w1 ⟨rfl, rfl⟩
  go_wp2_with fail
  go_ret3
  exact ⟨rfl, rfl⟩
theorem radd_3 (a b c d : Int) (v : Bool) (w : World) (h : okB a b = true) (g : okB c d = true) (k : okB (a + c) (b + d) = v) : Calls Try.prog 8 #[.int .i64 a, .int .i64 b, .int .i64 c, .int .i64 d] w fun e w' => e = .returned (.tuple #[.int .i64 (gX v (a + c)), .int .i64 (gX v (b + d)), .bool v]) ∧ w = w' := by
  have H := Lib.hid h
  have G := Lib.hid g
  obtain ⟨⟨h1, h2⟩, h3, h4⟩ := okB_iff.1 h
  obtain ⟨⟨g1, g2⟩, g3, g4⟩ := okB_iff.1 g
  have K := Lib.hid k
  clear h g k
  go_enter Try.func8, Try.ntmps8
  go_wp2_with fail
  refine (rmay_v _ _ _ _ H.out).mono ?_
  rintro e w1 ⟨rfl, rfl⟩
  go_wp2_with fail
  refine (rmay_v _ _ _ _ G.out).mono ?_
  rintro e w1 ⟨rfl, rfl⟩
  go_wp2_with fail
  refine (told_v _ _ _ _ K.out).mono ?_
  rintro e w1 ⟨rfl, rfl⟩
  go_wp2_with fail
  go_ret3
  exact ⟨rfl, rfl⟩
theorem radd_v (a b c d : Int) (v : Bool) (w : World) (h : addI a b c d = v) : Calls Try.prog 8 #[.int .i64 a, .int .i64 b, .int .i64 c, .int .i64 d] w fun e w' => e = .returned (.tuple #[.int .i64 (gX v (a + c)), .int .i64 (gX v (b + d)), .bool v]) ∧ w = w' := by
  unfold addI at h
  cases h1 : okB a b with
  | false =>
    rw [h1] at h
    simp only [Bool.false_and] at h
    subst h
    exact radd_1 a b c d w h1
  | true =>
    cases h2 : okB c d with
    | false =>
      rw [h1, h2] at h
      simp only [Bool.true_and, Bool.false_and] at h
      subst h
      exact radd_2 a b c d w h1 h2
    | true =>
      rw [h1, h2] at h
      simp only [Bool.true_and] at h
      exact radd_3 a b c d v w h1 h2 h

theorem rsub_1 (a b c d : Int) (w : World) (h : okB a b = false) : Calls Try.prog 10 #[.int .i64 a, .int .i64 b, .int .i64 c, .int .i64 d] w fun e w' => e = .returned (.tuple #[.int .i64 0, .int .i64 0, .bool false]) ∧ w = w' := by
  have H := Lib.hid h
  clear h
  go_enter Try.func10, Try.ntmps10
  go_wp2_with fail
  refine (rmay_v _ _ _ _ H.out).mono ?_
  rintro e w1 ⟨rfl, rfl⟩
  go_wp2_with fail
  go_ret3
  exact ⟨rfl, rfl⟩
theorem rsub_2 (a b c d : Int) (w : World) (h : okB a b = true) (g : okB c d = false) : Calls Try.prog 10 #[.int .i64 a, .int .i64 b, .int .i64 c, .int .i64 d] w fun e w' => e = .returned (.tuple #[.int .i64 0, .int .i64 0, .bool false]) ∧ w = w' := by
  have H := Lib.hid h
  have G := Lib.hid g
  clear h g
  go_enter Try.func10, Try.ntmps10
  go_wp2_with fail
  refine (rmay_v _ _ _ _ H.out).mono ?_
  rintro e w1 ⟨rfl, rfl⟩
  go_wp2_with fail
  refine (rmay_v _ _ _ _ G.out).mono ?_
  rintro e w1 ⟨rfl, rfl⟩
  go_wp2_with fail
  go_ret3
  exact ⟨rfl, rfl⟩
theorem rsub_3 (a b c d : Int) (v : Bool) (w : World) (h : okB a b = true) (g : okB c d = true) (k : okB (a - c) (b - d) = v) : Calls Try.prog 10 #[.int .i64 a, .int .i64 b, .int .i64 c, .int .i64 d] w fun e w' => e = .returned (.tuple #[.int .i64 (gX v (a - c)), .int .i64 (gX v (b - d)), .bool v]) ∧ w = w' := by
  have H := Lib.hid h
  have G := Lib.hid g
  obtain ⟨⟨h1, h2⟩, h3, h4⟩ := okB_iff.1 h
  obtain ⟨⟨g1, g2⟩, g3, g4⟩ := okB_iff.1 g
  have K := Lib.hid k
  clear h g k
  go_enter Try.func10, Try.ntmps10
  go_wp2_with fail
  refine (rmay_v _ _ _ _ H.out).mono ?_
  rintro e w1 ⟨rfl, rfl⟩
  go_wp2_with fail
  refine (rmay_v _ _ _ _ G.out).mono ?_
  rintro e w1 ⟨rfl, rfl⟩
  go_wp2_with fail
  refine (told_v _ _ _ _ K.out).mono ?_
  rintro e w1 ⟨rfl, rfl⟩
  go_wp2_with fail
  go_ret3
  exact ⟨rfl, rfl⟩
theorem rsub_v (a b c d : Int) (v : Bool) (w : World) (h : subI a b c d = v) : Calls Try.prog 10 #[.int .i64 a, .int .i64 b, .int .i64 c, .int .i64 d] w fun e w' => e = .returned (.tuple #[.int .i64 (gX v (a - c)), .int .i64 (gX v (b - d)), .bool v]) ∧ w = w' := by
  unfold subI at h
  cases h1 : okB a b with
  | false =>
    rw [h1] at h
    simp only [Bool.false_and] at h
    subst h
    exact rsub_1 a b c d w h1
  | true =>
    cases h2 : okB c d with
    | false =>
      rw [h1, h2] at h
      simp only [Bool.true_and, Bool.false_and] at h
      subst h
      exact rsub_2 a b c d w h1 h2
    | true =>
      rw [h1, h2] at h
      simp only [Bool.true_and] at h
      exact rsub_3 a b c d v w h1 h2 h

theorem rmul_1 (a b c d : Int) (w : World) (h : okB a b = false) : Calls Try.prog 12 #[.int .i64 a, .int .i64 b, .int .i64 c, .int .i64 d] w fun e w' => e = .returned (.tuple #[.int .i64 0, .int .i64 0, .bool false]) ∧ w = w' := by
  have H := Lib.hid h
  clear h
  go_enter Try.func12, Try.ntmps12
  go_wp2_with fail
  refine (rmay_v _ _ _ _ H.out).mono ?_
  rintro e w1 ⟨rfl, rfl⟩
  go_wp2_with fail
  go_ret3
  exact ⟨rfl, rfl⟩
theorem rmul_2 (a b c d : Int) (w : World) (h : okB a b = true) (g : okB c d = false) : Calls Try.prog 12 #[.int .i64 a, .int .i64 b, .int .i64 c, .int .i64 d] w fun e w' => e = .returned (.tuple #[.int .i64 0, .int .i64 0, .bool false]) ∧ w = w' := by
  have H := Lib.hid h
  have G := Lib.hid g
  clear h g
  go_enter Try.func12, Try.ntmps12
  go_wp2_with fail
  refine (rmay_v _ _ _ _ H.out).mono ?_
  rintro e w1 ⟨rfl, rfl⟩
  go_wp2_with fail
  refine (rmay_v _ _ _ _ G.out).mono ?_
  rintro e w1 ⟨rfl, rfl⟩
  go_wp2_with fail
  go_ret3
  exact ⟨rfl, rfl⟩
theorem rmul_3 (a b c d : Int) (v : Bool) (w : World) (h : okB a b = true) (g : okB c d = true) (k : okB (a * c - b * d) (a * d + b * c) = v) : Calls Try.prog 12 #[.int .i64 a, .int .i64 b, .int .i64 c, .int .i64 d] w fun e w' => e = .returned (.tuple #[.int .i64 (gX v (a * c - b * d)), .int .i64 (gX v (a * d + b * c)), .bool v]) ∧ w = w' := by
  have H := Lib.hid h
  have G := Lib.hid g
  obtain ⟨⟨h1, h2⟩, h3, h4⟩ := okB_iff.1 h
  obtain ⟨⟨g1, g2⟩, g3, g4⟩ := okB_iff.1 g
  have e1 := natAbs_le ⟨h1, h2⟩ ⟨g1, g2⟩
  have e2 := natAbs_le ⟨h3, h4⟩ ⟨g3, g4⟩
  have e3 := natAbs_le ⟨h1, h2⟩ ⟨g3, g4⟩
  have e4 := natAbs_le ⟨h3, h4⟩ ⟨g1, g2⟩
  obtain ⟨x1, hx1⟩ : ∃ x, x = a * c := ⟨_, rfl⟩
  obtain ⟨x2, hx2⟩ : ∃ x, x = b * d := ⟨_, rfl⟩
  obtain ⟨x3, hx3⟩ : ∃ x, x = a * d := ⟨_, rfl⟩
  obtain ⟨x4, hx4⟩ : ∃ x, x = b * c := ⟨_, rfl⟩
  rw [← hx1, ← hx2, ← hx3, ← hx4] at k
  rw [← hx1] at e1
  rw [← hx2] at e2
  rw [← hx3] at e3
  rw [← hx4] at e4
  have r1 : wrap64 (a * c) = x1 := by rw [← hx1]; exact IntWalk.wrap64_in _ (by omega)
  have r2 : wrap64 (b * d) = x2 := by rw [← hx2]; exact IntWalk.wrap64_in _ (by omega)
  have r3 : wrap64 (a * d) = x3 := by rw [← hx3]; exact IntWalk.wrap64_in _ (by omega)
  have r4 : wrap64 (b * c) = x4 := by rw [← hx4]; exact IntWalk.wrap64_in _ (by omega)
  have r1' : IntKind.i64.wrap (a * c) = x1 := by rw [← hx1]; exact IntWalk.i64_in _ (by omega)
  have r2' : IntKind.i64.wrap (b * d) = x2 := by rw [← hx2]; exact IntWalk.i64_in _ (by omega)
  have r3' : IntKind.i64.wrap (a * d) = x3 := by rw [← hx3]; exact IntWalk.i64_in _ (by omega)
  have r4' : IntKind.i64.wrap (b * c) = x4 := by rw [← hx4]; exact IntWalk.i64_in _ (by omega)
  have b1 : -1099511627776 ≤ x1 ∧ x1 ≤ 1099511627776 := by omega
  have b2 : -1099511627776 ≤ x2 ∧ x2 ≤ 1099511627776 := by omega
  have b3 : -1099511627776 ≤ x3 ∧ x3 ≤ 1099511627776 := by omega
  have b4 : -1099511627776 ≤ x4 ∧ x4 ≤ 1099511627776 := by omega
  obtain ⟨b11, b12⟩ := b1
  obtain ⟨b21, b22⟩ := b2
  obtain ⟨b31, b32⟩ := b3
  obtain ⟨b41, b42⟩ := b4
  rw [← hx1, ← hx2, ← hx3, ← hx4]
  clear hx1 hx2 hx3 hx4 e1 e2 e3 e4
  have K := Lib.hid k
  clear h g k
  go_enter Try.func12, Try.ntmps12
  go_wp2_with fail
  refine (rmay_v _ _ _ _ H.out).mono ?_
  rintro e w1 ⟨rfl, rfl⟩
  go_wp2_with fail
  refine (rmay_v _ _ _ _ G.out).mono ?_
  rintro e w1 ⟨rfl, rfl⟩
  go_wp2_with fail
  refine (told_v _ _ _ _ K.out).mono ?_
  rintro e w1 ⟨rfl, rfl⟩
  go_wp2_with fail
  go_ret3
  exact ⟨rfl, rfl⟩
theorem rmul_v (a b c d : Int) (v : Bool) (w : World) (h : mulI a b c d = v) : Calls Try.prog 12 #[.int .i64 a, .int .i64 b, .int .i64 c, .int .i64 d] w fun e w' => e = .returned (.tuple #[.int .i64 (gX v (a * c - b * d)), .int .i64 (gX v (a * d + b * c)), .bool v]) ∧ w = w' := by
  unfold mulI at h
  cases h1 : okB a b with
  | false =>
    rw [h1] at h
    simp only [Bool.false_and] at h
    subst h
    exact rmul_1 a b c d w h1
  | true =>
    cases h2 : okB c d with
    | false =>
      rw [h1, h2] at h
      simp only [Bool.true_and, Bool.false_and] at h
      subst h
      exact rmul_2 a b c d w h1 h2
    | true =>
      rw [h1, h2] at h
      simp only [Bool.true_and] at h
      exact rmul_3 a b c d v w h1 h2 h

theorem rconj_t (a b : Int) (w : World) (h : okB a b = true) : Calls Try.prog 14 #[.int .i64 a, .int .i64 b] w fun e w' => e = .returned (.tuple #[.int .i64 a, .int .i64 (-b), .bool true]) ∧ w = w' := by
  have H := Lib.hid h
  have H2 : Hid (okB a (-b) = true) := by rw [Hid, neg_ok]; exact h
  obtain ⟨⟨h1, h2⟩, h3, h4⟩ := okB_iff.1 h
  clear h
  go_enter Try.func14, Try.ntmps14
  go_wp2_with fail
  refine (rmay_v _ _ _ _ H.out).mono ?_
  rintro e w1 ⟨rfl, rfl⟩
  go_wp2_with fail
  refine (told_v _ _ _ _ H2.out).mono ?_
  rintro e w1 ⟨rfl, rfl⟩
  go_wp2_with fail
  go_ret3
  exact ⟨rfl, rfl⟩
theorem rconj_f (a b : Int) (w : World) (h : okB a b = false) : Calls Try.prog 14 #[.int .i64 a, .int .i64 b] w fun e w' => e = .returned (.tuple #[.int .i64 0, .int .i64 0, .bool false]) ∧ w = w' := by
  have H := Lib.hid h
  clear h
  go_enter Try.func14, Try.ntmps14
  go_wp2_with fail
  refine (rmay_v _ _ _ _ H.out).mono ?_
  rintro e w1 ⟨rfl, rfl⟩
  go_wp2_with fail
  go_ret3
  exact ⟨rfl, rfl⟩
theorem rconj_v (a b : Int) (v : Bool) (w : World) (h : okB a b = v) : Calls Try.prog 14 #[.int .i64 a, .int .i64 b] w fun e w' => e = .returned (.tuple #[.int .i64 (gX v a), .int .i64 (gX v (-b)), .bool v]) ∧ w = w' := by
  cases v with
  | true => exact rconj_t a b w h
  | false => exact rconj_f a b w h
theorem rmeasure_f (a b : Int) (w : World) (h : okB a b = false) : Calls Try.prog 18 #[.int .i64 a, .int .i64 b] w fun e w' => e = .returned (.int .i64 (-1)) ∧ w = w' := by
  have H := Lib.hid h
  clear h
  go_enter Try.func18, Try.ntmps18
  go_wp2_with fail
  refine (rmay_v _ _ _ _ H.out).mono ?_
  rintro e w1 ⟨rfl, rfl⟩
  go_wp2_with fail
  go_ret
  exact ⟨rfl, rfl⟩
theorem rmeasure_t (a b : Int) (w : World) (h : okB a b = true) : Calls Try.prog 18 #[.int .i64 a, .int .i64 b] w fun e w' => e = .returned (.int .i64 (a * a + b * b)) ∧ w = w' := by
  have H := Lib.hid h
  obtain ⟨h1, h2⟩ := okB_iff.1 h
  have e1 := sq_le h1
  have e2 := sq_le h2
  obtain ⟨x, hx⟩ : ∃ x, x = a * a := ⟨_, rfl⟩
  obtain ⟨y, hy⟩ : ∃ y, y = b * b := ⟨_, rfl⟩
  have rx : IntKind.i64.wrap (a * a) = x := by rw [hx]; exact IntWalk.i64_in _ (by omega)
  have ry : IntKind.i64.wrap (b * b) = y := by rw [hy]; exact IntWalk.i64_in _ (by omega)
  rw [← hx, ← hy]
  rw [← hx] at e1
  rw [← hy] at e2
  clear h h1 h2 hx hy
  go_enter Try.func18, Try.ntmps18
  go_wp2_with fail
  refine (rmay_v _ _ _ _ H.out).mono ?_
  rintro e w1 ⟨rfl, rfl⟩
  go_wp2_with fail
  go_ret
  exact ⟨rfl, rfl⟩
theorem rmeasure_any (a b : Int) (w : World) : Calls Try.prog 18 #[.int .i64 a, .int .i64 b] w fun e w' => e = .returned (.int .i64 (meas a b)) ∧ w = w' := by
  cases h : okB a b with
  | true => have := rmeasure_t a b w h; simpa only [meas, h, if_true] using this
  | false => have := rmeasure_f a b w h; simpa only [meas, h, Bool.false_eq_true, if_false] using this
end Go.Proofs.Ytpeggkhbdkbjmaa
