/-
  The walk of GaussTells: for every four numbers it returns true; nothing that was there has changed.
-/
import Derived.Test.YtpeggkhbdkbjmaaGawake
namespace Go.Proofs.Ytpeggkhbdkbjmaa
open Go.RowKit

set_option maxRecDepth 100000 in
set_option maxHeartbeats 2000000 in
theorem tells_walk (a b c d : Int) (w : World) (hm : -9223372036854775808 ≤ b ∧ b ≤ 9223372036854775807) : Calls Try.prog 3 #[.int .i64 a, .int .i64 b, .int .i64 c, .int .i64 d] w fun e w' => e = .returned (.bool true) ∧ Below w.heap.size w w' := by
  obtain ⟨v1, h1⟩ : ∃ v, addI a b c d = v := ⟨_, rfl⟩
  obtain ⟨v2, h2⟩ : ∃ v, subI a b c d = v := ⟨_, rfl⟩
  obtain ⟨v3, h3⟩ : ∃ v, mulI a b c d = v := ⟨_, rfl⟩
  obtain ⟨v4, h4⟩ : ∃ v, okB a b = v := ⟨_, rfl⟩
  have H1 := Lib.hid h1
  have H2 := Lib.hid h2
  have H3 := Lib.hid h3
  have H4 := Lib.hid h4
  have HM := Lib.hid hm
  have eq := fun (a b x y : Int) (w : World) => eq_pair 9998 a b x y w
  clear h1 h2 h3 h4 hm
  go_enter Try.func3, Try.ntmps3
  go_wp2_with fail
  refine (add_v _ _ _ _ _ _ H1.out).mono ?_
  rintro e w1 ⟨rfl, hb1⟩
  have HB1 := Lib.hid (below2 hb1)
  have p := Lib.hid (((Pr.new w a b).alloc (.cells #[.int .i64 c, .int .i64 d] 23)).keep hb1)
  have q : Hid (Pr w1 (w.heap.size + 1) c d) := by simpa [Hid] using (Pr.new (w.alloc (.cells #[.int .i64 a, .int .i64 b] 23)) c d).keep hb1
  clear hb1
  go_wp2_with fail
  refine (radd_v _ _ _ _ _ _ H1.out).mono ?_
  rintro e w1' ⟨rfl, rfl⟩
  obtain ⟨_, p1, p2, _, _⟩ := p.out
  obtain ⟨_, q1, q2, _, _⟩ := q.out
  go_wp2_with fail
  clear p1 p2 q1 q2
  refine (sub_v _ _ _ _ _ _ H2.out).mono ?_
  rintro e w2 ⟨rfl, hb2⟩
  have HB2 := Lib.hid (below_on HB1.out (below1 hb2))
  have n0 : ¬ (w.heap.size = w1.heap.size) := by have := p.out.1; omega
  have n1 : ¬ (w.heap.size + 1 = w1.heap.size) := by have := q.out.1; omega
  have m0 : ¬ (w1.heap.size = w.heap.size) := by omega
  have m1 : ¬ (w1.heap.size = w.heap.size + 1) := by omega
  have s := Lib.hid ((Pr.new w1 (gX v1 (a + c)) (gX v1 (b + d))).keep hb2)
  have p' := Lib.hid (p.out.on hb2)
  have q' := Lib.hid (q.out.on hb2)
  clear hb2 p q HB1
  obtain ⟨_, s1, s2, s3, s4⟩ := s.out
  go_wp2_with fail
  refine (rsub_v _ _ _ _ _ _ H2.out).mono ?_
  rintro e w2' ⟨rfl, rfl⟩
  obtain ⟨_, p1, p2, _, _⟩ := p'.out
  obtain ⟨_, q1, q2, _, _⟩ := q'.out
  go_wp2_with fail
  clear p1 p2 q1 q2 s1 s2 s3 s4
  refine (mul_v _ _ _ _ _ _ H3.out).mono ?_
  rintro e w3 ⟨rfl, hb3⟩
  have HB3 := Lib.hid (below_on (below_set2 (p := ⟨w1.heap.size, 0, none⟩) (q := ⟨w1.heap.size, 1, none⟩) HB2.out (by have := p'.out.1; simp; omega) (by simp; omega) (.int .i64 (gX v2 (a - c))) (.int .i64 (gX v2 (b - d)))) hb3)
  have s' := Lib.hid ((s.out.set (gX v2 (a - c)) (gX v2 (b - d))).keep hb3)
  have p := Lib.hid ((p'.out.other n0 _ _).keep hb3)
  have q := Lib.hid ((q'.out.other n1 _ _).keep hb3)
  clear hb3 p' q' s HB2
  obtain ⟨_, s1, s2, s3, s4⟩ := s'.out
  go_wp2_with fail
  refine (rmul_v _ _ _ _ _ _ H3.out).mono ?_
  rintro e w3' ⟨rfl, rfl⟩
  obtain ⟨_, p1, p2, _, _⟩ := p.out
  go_wp2_with fail
  clear p1 p2 s1 s2 s3 s4
  refine (conj_v _ _ _ _ H4.out HM.out).mono ?_
  rintro e w4 ⟨rfl, hb4⟩
  have HB4 := Lib.hid (below_on (below_set2 (p := ⟨w1.heap.size, 0, none⟩) (q := ⟨w1.heap.size, 1, none⟩) HB3.out (by simp; omega) (by simp; omega) (.int .i64 (gX v3 (a * c - b * d))) (.int .i64 (gX v3 (a * d + b * c)))) hb4)
  have s := Lib.hid ((s'.out.set (gX v3 (a * c - b * d)) (gX v3 (a * d + b * c))).keep hb4)
  have p' := Lib.hid ((p.out.other n0 _ _).keep hb4)
  clear hb4 p q s' HB3
  obtain ⟨_, s1, s2, s3, s4⟩ := s.out
  go_wp2_with fail
  refine (rconj_v _ _ _ _ H4.out).mono ?_
  rintro e w4' ⟨rfl, rfl⟩
  obtain ⟨_, p1, p2, _, _⟩ := p'.out
  go_wp2_with fail
  refine (may_v _ _ _ _ H4.out).mono ?_
  rintro e w5 ⟨rfl, hb5⟩
  clear p1 p2 s1 s2 s3 s4
  have HB5 := Lib.hid (below_on (below_set2 (p := ⟨w1.heap.size, 0, none⟩) (q := ⟨w1.heap.size, 1, none⟩) HB4.out (by simp; omega) (by simp; omega) (.int .i64 (gX v4 a)) (.int .i64 (gX v4 (-b)))) hb5)
  obtain ⟨_, p1, p2, _, _⟩ := (p'.out.other n0 (.int .i64 (gX v4 a)) (.int .i64 (gX v4 (-b)))).keep hb5
  clear hb5 HB4
  go_wp2_with fail
  refine (rmay_v _ _ _ _ H4.out).mono ?_
  rintro e w5' ⟨rfl, rfl⟩
  go_wp2_with fail
  refine (measure_any _ _ _).mono ?_
  rintro e w6 ⟨rfl, hb6⟩
  have HB6 := Lib.hid (below_on HB5.out hb6)
  clear hb6 p1 p2
  go_wp2_with fail
  refine (rmeasure_any _ _ _).mono ?_
  rintro e w6' ⟨rfl, rfl⟩
  go_wp2_with fail
  go_ret
  exact ⟨rfl, HB6.out⟩
end Go.Proofs.Ytpeggkhbdkbjmaa
