/-
  The walk of GaussEnds: for every number and either part it returns true; nothing that was there has changed.
-/
import Derived.Test.YtpeggkhbdkbjmaaGawake
namespace Go.Proofs.Ytpeggkhbdkbjmaa
open Go.RowKit


set_option maxHeartbeats 1000000 in
theorem ends_lo_false (n : Int) (w : World) (h : n < -1048576) : Calls Try.prog 6 #[.int .i64 n, .bool false] w fun e w' => e = .returned (.bool true) ∧ Below w.heap.size w w' := by
  have M : Hid (okB (n) (0) = false) := by simp [Hid, okB, partB]; omega
  have A : Hid (addI (n) (0) 1 0 = false) := by simp [Hid, addI, okB, partB]; omega
  have S : Hid (subI (n) (0) 1 0 = false) := by simp [Hid, subI, okB, partB]; omega
  have h1 : decide (-1048576 ≤ n) = false := by simp; omega
  go_enter Try.func6, Try.ntmps6
  go_wp2_with fail
  refine (awake_any _).mono ?_
  rintro e w1 ⟨rfl, hb1⟩
  have HB1 := Lib.hid hb1
  clear hb1
  go_wp2_with fail
  refine (add_v _ _ _ _ _ _ A.out).mono ?_
  rintro e w2 ⟨rfl, hb2⟩
  have hb1' : Below w.heap.size w w2 := below_on HB1.out (below2 hb2)
  have HB2 := Lib.hid hb1'
  clear hb1'
  have p1 := ((Pr.new w1 (n) (0)).alloc (.cells #[.int .i64 (1), .int .i64 (0)] 23)).keep hb2
  have p2 : Pr w2 (w1.heap.size + 1) (1) (0) := by simpa using (Pr.new (w1.alloc (.cells #[.int .i64 (n), .int .i64 (0)] 23)) (1) (0)).keep hb2
  have P1 := Lib.hid p1
  have P2 := Lib.hid p2
  obtain ⟨_, c1, c2, _, _⟩ := p1
  obtain ⟨_, d1, d2, _, _⟩ := p2
  clear hb2
  go_wp2_with fail
  refine (sub_v _ _ _ _ _ _ S.out).mono ?_
  rintro e w3 ⟨rfl, hb3⟩
  clear c1 c2 d1 d2
  obtain ⟨_, c1, c2, _, _⟩ := P1.out.on hb3
  have HB3 := Lib.hid (below_on HB2.out (below1 hb3))
  clear hb3
  go_wp2_with fail
  refine (may_v _ _ _ _ M.out).mono ?_
  rintro e w4 ⟨rfl, hb4⟩
  have HB4 := Lib.hid (below_on HB3.out (below1 hb4))
  clear hb4
  go_wp2_with fail
  go_ret
  exact ⟨rfl, HB4.out⟩

set_option maxHeartbeats 1000000 in
theorem ends_lo_true (n : Int) (w : World) (h : n < -1048576) : Calls Try.prog 6 #[.int .i64 n, .bool true] w fun e w' => e = .returned (.bool true) ∧ Below w.heap.size w w' := by
  have M : Hid (okB (0) (n) = false) := by simp [Hid, okB, partB]; omega
  have A : Hid (addI (0) (n) 0 1 = false) := by simp [Hid, addI, okB, partB]; omega
  have S : Hid (subI (0) (n) 0 1 = false) := by simp [Hid, subI, okB, partB]; omega
  have h1 : decide (-1048576 ≤ n) = false := by simp; omega
  go_enter Try.func6, Try.ntmps6
  go_wp2_with fail
  refine (awake_any _).mono ?_
  rintro e w1 ⟨rfl, hb1⟩
  have HB1 := Lib.hid hb1
  clear hb1
  go_wp2_with fail
  refine (add_v _ _ _ _ _ _ A.out).mono ?_
  rintro e w2 ⟨rfl, hb2⟩
  have hb1' : Below w.heap.size w w2 := below_on HB1.out (below2 hb2)
  have HB2 := Lib.hid hb1'
  clear hb1'
  have p1 := ((Pr.new w1 (0) (n)).alloc (.cells #[.int .i64 (0), .int .i64 (1)] 23)).keep hb2
  have p2 : Pr w2 (w1.heap.size + 1) (0) (1) := by simpa using (Pr.new (w1.alloc (.cells #[.int .i64 (0), .int .i64 (n)] 23)) (0) (1)).keep hb2
  have P1 := Lib.hid p1
  have P2 := Lib.hid p2
  obtain ⟨_, c1, c2, _, _⟩ := p1
  obtain ⟨_, d1, d2, _, _⟩ := p2
  clear hb2
  go_wp2_with fail
  refine (sub_v _ _ _ _ _ _ S.out).mono ?_
  rintro e w3 ⟨rfl, hb3⟩
  clear c1 c2 d1 d2
  obtain ⟨_, c1, c2, _, _⟩ := P1.out.on hb3
  have HB3 := Lib.hid (below_on HB2.out (below1 hb3))
  clear hb3
  go_wp2_with fail
  refine (may_v _ _ _ _ M.out).mono ?_
  rintro e w4 ⟨rfl, hb4⟩
  have HB4 := Lib.hid (below_on HB3.out (below1 hb4))
  clear hb4
  go_wp2_with fail
  go_ret
  exact ⟨rfl, HB4.out⟩

set_option maxHeartbeats 1000000 in
theorem ends_hi_false (n : Int) (w : World) (h : 1048576 < n) : Calls Try.prog 6 #[.int .i64 n, .bool false] w fun e w' => e = .returned (.bool true) ∧ Below w.heap.size w w' := by
  have M : Hid (okB (n) (0) = false) := by simp [Hid, okB, partB]; omega
  have A : Hid (addI (n) (0) 1 0 = false) := by simp [Hid, addI, okB, partB]; omega
  have S : Hid (subI (n) (0) 1 0 = false) := by simp [Hid, subI, okB, partB]; omega
  have h0 : -1048576 ≤ n := by omega
  have h1 : decide (n ≤ 1048576) = false := by simp; omega
  go_enter Try.func6, Try.ntmps6
  go_wp2_with fail
  refine (awake_any _).mono ?_
  rintro e w1 ⟨rfl, hb1⟩
  have HB1 := Lib.hid hb1
  clear hb1
  go_wp2_with fail
  refine (add_v _ _ _ _ _ _ A.out).mono ?_
  rintro e w2 ⟨rfl, hb2⟩
  have hb1' : Below w.heap.size w w2 := below_on HB1.out (below2 hb2)
  have HB2 := Lib.hid hb1'
  clear hb1'
  have p1 := ((Pr.new w1 (n) (0)).alloc (.cells #[.int .i64 (1), .int .i64 (0)] 23)).keep hb2
  have p2 : Pr w2 (w1.heap.size + 1) (1) (0) := by simpa using (Pr.new (w1.alloc (.cells #[.int .i64 (n), .int .i64 (0)] 23)) (1) (0)).keep hb2
  have P1 := Lib.hid p1
  have P2 := Lib.hid p2
  obtain ⟨_, c1, c2, _, _⟩ := p1
  obtain ⟨_, d1, d2, _, _⟩ := p2
  clear hb2
  go_wp2_with fail
  refine (sub_v _ _ _ _ _ _ S.out).mono ?_
  rintro e w3 ⟨rfl, hb3⟩
  clear c1 c2 d1 d2
  obtain ⟨_, c1, c2, _, _⟩ := P1.out.on hb3
  have HB3 := Lib.hid (below_on HB2.out (below1 hb3))
  clear hb3
  go_wp2_with fail
  refine (may_v _ _ _ _ M.out).mono ?_
  rintro e w4 ⟨rfl, hb4⟩
  have HB4 := Lib.hid (below_on HB3.out (below1 hb4))
  clear hb4
  go_wp2_with fail
  go_ret
  exact ⟨rfl, HB4.out⟩

set_option maxHeartbeats 1000000 in
theorem ends_hi_true (n : Int) (w : World) (h : 1048576 < n) : Calls Try.prog 6 #[.int .i64 n, .bool true] w fun e w' => e = .returned (.bool true) ∧ Below w.heap.size w w' := by
  have M : Hid (okB (0) (n) = false) := by simp [Hid, okB, partB]; omega
  have A : Hid (addI (0) (n) 0 1 = false) := by simp [Hid, addI, okB, partB]; omega
  have S : Hid (subI (0) (n) 0 1 = false) := by simp [Hid, subI, okB, partB]; omega
  have h0 : -1048576 ≤ n := by omega
  have h1 : decide (n ≤ 1048576) = false := by simp; omega
  go_enter Try.func6, Try.ntmps6
  go_wp2_with fail
  refine (awake_any _).mono ?_
  rintro e w1 ⟨rfl, hb1⟩
  have HB1 := Lib.hid hb1
  clear hb1
  go_wp2_with fail
  refine (add_v _ _ _ _ _ _ A.out).mono ?_
  rintro e w2 ⟨rfl, hb2⟩
  have hb1' : Below w.heap.size w w2 := below_on HB1.out (below2 hb2)
  have HB2 := Lib.hid hb1'
  clear hb1'
  have p1 := ((Pr.new w1 (0) (n)).alloc (.cells #[.int .i64 (0), .int .i64 (1)] 23)).keep hb2
  have p2 : Pr w2 (w1.heap.size + 1) (0) (1) := by simpa using (Pr.new (w1.alloc (.cells #[.int .i64 (0), .int .i64 (n)] 23)) (0) (1)).keep hb2
  have P1 := Lib.hid p1
  have P2 := Lib.hid p2
  obtain ⟨_, c1, c2, _, _⟩ := p1
  obtain ⟨_, d1, d2, _, _⟩ := p2
  clear hb2
  go_wp2_with fail
  refine (sub_v _ _ _ _ _ _ S.out).mono ?_
  rintro e w3 ⟨rfl, hb3⟩
  clear c1 c2 d1 d2
  obtain ⟨_, c1, c2, _, _⟩ := P1.out.on hb3
  have HB3 := Lib.hid (below_on HB2.out (below1 hb3))
  clear hb3
  go_wp2_with fail
  refine (may_v _ _ _ _ M.out).mono ?_
  rintro e w4 ⟨rfl, hb4⟩
  have HB4 := Lib.hid (below_on HB3.out (below1 hb4))
  clear hb4
  go_wp2_with fail
  go_ret
  exact ⟨rfl, HB4.out⟩

set_option maxHeartbeats 1000000 in
theorem ends_top_false (n : Int) (w : World) (h : n = 1048576) : Calls Try.prog 6 #[.int .i64 n, .bool false] w fun e w' => e = .returned (.bool true) ∧ Below w.heap.size w w' := by
  have M : Hid (okB (n) (0) = true) := by simp [Hid, okB, partB]; omega
  have A : Hid (addI (n) (0) 1 0 = false) := by simp [Hid, addI, okB, partB]; omega
  have S : Hid (subI (n) (0) 1 0 = true) := by simp [Hid, subI, okB, partB]; omega
  subst h
  go_enter Try.func6, Try.ntmps6
  go_wp2_with fail
  refine (awake_any _).mono ?_
  rintro e w1 ⟨rfl, hb1⟩
  have HB1 := Lib.hid hb1
  clear hb1
  go_wp2_with fail
  refine (add_v _ _ _ _ _ _ A.out).mono ?_
  rintro e w2 ⟨rfl, hb2⟩
  have hb1' : Below w.heap.size w w2 := below_on HB1.out (below2 hb2)
  have HB2 := Lib.hid hb1'
  clear hb1'
  have p1 := ((Pr.new w1 (1048576) (0)).alloc (.cells #[.int .i64 (1), .int .i64 (0)] 23)).keep hb2
  have p2 : Pr w2 (w1.heap.size + 1) (1) (0) := by simpa using (Pr.new (w1.alloc (.cells #[.int .i64 (1048576), .int .i64 (0)] 23)) (1) (0)).keep hb2
  have P1 := Lib.hid p1
  have P2 := Lib.hid p2
  obtain ⟨_, c1, c2, _, _⟩ := p1
  obtain ⟨_, d1, d2, _, _⟩ := p2
  clear hb2
  go_wp2_with fail
  refine (sub_v _ _ _ _ _ _ S.out).mono ?_
  rintro e w3 ⟨rfl, hb3⟩
  clear c1 c2 d1 d2
  obtain ⟨_, c1, c2, _, _⟩ := P1.out.on hb3
  have HB3 := Lib.hid (below_on HB2.out (below1 hb3))
  clear hb3
  go_wp2_with fail
  refine (may_v _ _ _ _ M.out).mono ?_
  rintro e w4 ⟨rfl, hb4⟩
  have HB4 := Lib.hid (below_on HB3.out (below1 hb4))
  clear hb4
  go_wp2_with fail
  go_ret
  exact ⟨rfl, HB4.out⟩

set_option maxHeartbeats 1000000 in
theorem ends_top_true (n : Int) (w : World) (h : n = 1048576) : Calls Try.prog 6 #[.int .i64 n, .bool true] w fun e w' => e = .returned (.bool true) ∧ Below w.heap.size w w' := by
  have M : Hid (okB (0) (n) = true) := by simp [Hid, okB, partB]; omega
  have A : Hid (addI (0) (n) 0 1 = false) := by simp [Hid, addI, okB, partB]; omega
  have S : Hid (subI (0) (n) 0 1 = true) := by simp [Hid, subI, okB, partB]; omega
  subst h
  go_enter Try.func6, Try.ntmps6
  go_wp2_with fail
  refine (awake_any _).mono ?_
  rintro e w1 ⟨rfl, hb1⟩
  have HB1 := Lib.hid hb1
  clear hb1
  go_wp2_with fail
  refine (add_v _ _ _ _ _ _ A.out).mono ?_
  rintro e w2 ⟨rfl, hb2⟩
  have hb1' : Below w.heap.size w w2 := below_on HB1.out (below2 hb2)
  have HB2 := Lib.hid hb1'
  clear hb1'
  have p1 := ((Pr.new w1 (0) (1048576)).alloc (.cells #[.int .i64 (0), .int .i64 (1)] 23)).keep hb2
  have p2 : Pr w2 (w1.heap.size + 1) (0) (1) := by simpa using (Pr.new (w1.alloc (.cells #[.int .i64 (0), .int .i64 (1048576)] 23)) (0) (1)).keep hb2
  have P1 := Lib.hid p1
  have P2 := Lib.hid p2
  obtain ⟨_, c1, c2, _, _⟩ := p1
  obtain ⟨_, d1, d2, _, _⟩ := p2
  clear hb2
  go_wp2_with fail
  refine (sub_v _ _ _ _ _ _ S.out).mono ?_
  rintro e w3 ⟨rfl, hb3⟩
  clear c1 c2 d1 d2
  obtain ⟨_, c1, c2, _, _⟩ := P1.out.on hb3
  have HB3 := Lib.hid (below_on HB2.out (below1 hb3))
  clear hb3
  go_wp2_with fail
  refine (may_v _ _ _ _ M.out).mono ?_
  rintro e w4 ⟨rfl, hb4⟩
  have HB4 := Lib.hid (below_on HB3.out (below1 hb4))
  clear hb4
  go_wp2_with fail
  go_ret
  exact ⟨rfl, HB4.out⟩

set_option maxHeartbeats 1000000 in
theorem ends_bot_false (n : Int) (w : World) (h : n = -1048576) : Calls Try.prog 6 #[.int .i64 n, .bool false] w fun e w' => e = .returned (.bool true) ∧ Below w.heap.size w w' := by
  have M : Hid (okB (n) (0) = true) := by simp [Hid, okB, partB]; omega
  have A : Hid (addI (n) (0) 1 0 = true) := by simp [Hid, addI, okB, partB]; omega
  have S : Hid (subI (n) (0) 1 0 = false) := by simp [Hid, subI, okB, partB]; omega
  subst h
  go_enter Try.func6, Try.ntmps6
  go_wp2_with fail
  refine (awake_any _).mono ?_
  rintro e w1 ⟨rfl, hb1⟩
  have HB1 := Lib.hid hb1
  clear hb1
  go_wp2_with fail
  refine (add_v _ _ _ _ _ _ A.out).mono ?_
  rintro e w2 ⟨rfl, hb2⟩
  have hb1' : Below w.heap.size w w2 := below_on HB1.out (below2 hb2)
  have HB2 := Lib.hid hb1'
  clear hb1'
  have p1 := ((Pr.new w1 (-1048576) (0)).alloc (.cells #[.int .i64 (1), .int .i64 (0)] 23)).keep hb2
  have p2 : Pr w2 (w1.heap.size + 1) (1) (0) := by simpa using (Pr.new (w1.alloc (.cells #[.int .i64 (-1048576), .int .i64 (0)] 23)) (1) (0)).keep hb2
  have P1 := Lib.hid p1
  have P2 := Lib.hid p2
  obtain ⟨_, c1, c2, _, _⟩ := p1
  obtain ⟨_, d1, d2, _, _⟩ := p2
  clear hb2
  go_wp2_with fail
  refine (sub_v _ _ _ _ _ _ S.out).mono ?_
  rintro e w3 ⟨rfl, hb3⟩
  clear c1 c2 d1 d2
  obtain ⟨_, c1, c2, _, _⟩ := P1.out.on hb3
  have HB3 := Lib.hid (below_on HB2.out (below1 hb3))
  clear hb3
  go_wp2_with fail
  refine (may_v _ _ _ _ M.out).mono ?_
  rintro e w4 ⟨rfl, hb4⟩
  have HB4 := Lib.hid (below_on HB3.out (below1 hb4))
  clear hb4
  go_wp2_with fail
  go_ret
  exact ⟨rfl, HB4.out⟩

set_option maxHeartbeats 1000000 in
theorem ends_bot_true (n : Int) (w : World) (h : n = -1048576) : Calls Try.prog 6 #[.int .i64 n, .bool true] w fun e w' => e = .returned (.bool true) ∧ Below w.heap.size w w' := by
  have M : Hid (okB (0) (n) = true) := by simp [Hid, okB, partB]; omega
  have A : Hid (addI (0) (n) 0 1 = true) := by simp [Hid, addI, okB, partB]; omega
  have S : Hid (subI (0) (n) 0 1 = false) := by simp [Hid, subI, okB, partB]; omega
  subst h
  go_enter Try.func6, Try.ntmps6
  go_wp2_with fail
  refine (awake_any _).mono ?_
  rintro e w1 ⟨rfl, hb1⟩
  have HB1 := Lib.hid hb1
  clear hb1
  go_wp2_with fail
  refine (add_v _ _ _ _ _ _ A.out).mono ?_
  rintro e w2 ⟨rfl, hb2⟩
  have hb1' : Below w.heap.size w w2 := below_on HB1.out (below2 hb2)
  have HB2 := Lib.hid hb1'
  clear hb1'
  have p1 := ((Pr.new w1 (0) (-1048576)).alloc (.cells #[.int .i64 (0), .int .i64 (1)] 23)).keep hb2
  have p2 : Pr w2 (w1.heap.size + 1) (0) (1) := by simpa using (Pr.new (w1.alloc (.cells #[.int .i64 (0), .int .i64 (-1048576)] 23)) (0) (1)).keep hb2
  have P1 := Lib.hid p1
  have P2 := Lib.hid p2
  obtain ⟨_, c1, c2, _, _⟩ := p1
  obtain ⟨_, d1, d2, _, _⟩ := p2
  clear hb2
  go_wp2_with fail
  refine (sub_v _ _ _ _ _ _ S.out).mono ?_
  rintro e w3 ⟨rfl, hb3⟩
  clear c1 c2 d1 d2
  obtain ⟨_, c1, c2, _, _⟩ := P1.out.on hb3
  have HB3 := Lib.hid (below_on HB2.out (below1 hb3))
  clear hb3
  go_wp2_with fail
  refine (may_v _ _ _ _ M.out).mono ?_
  rintro e w4 ⟨rfl, hb4⟩
  have HB4 := Lib.hid (below_on HB3.out (below1 hb4))
  clear hb4
  go_wp2_with fail
  go_ret
  exact ⟨rfl, HB4.out⟩

set_option maxHeartbeats 1000000 in
theorem ends_mid_false (n : Int) (w : World) (h : -1048576 < n ∧ n < 1048576) : Calls Try.prog 6 #[.int .i64 n, .bool false] w fun e w' => e = .returned (.bool true) ∧ Below w.heap.size w w' := by
  have M : Hid (okB (n) (0) = true) := by simp [Hid, okB, partB]; omega
  have A : Hid (addI (n) (0) 1 0 = true) := by simp [Hid, addI, okB, partB]; omega
  have S : Hid (subI (n) (0) 1 0 = true) := by simp [Hid, subI, okB, partB]; omega
  obtain ⟨h1, h2⟩ := h
  go_enter Try.func6, Try.ntmps6
  go_wp2_with fail
  refine (awake_any _).mono ?_
  rintro e w1 ⟨rfl, hb1⟩
  have HB1 := Lib.hid hb1
  clear hb1
  go_wp2_with fail
  refine (add_v _ _ _ _ _ _ A.out).mono ?_
  rintro e w2 ⟨rfl, hb2⟩
  have hb1' : Below w.heap.size w w2 := below_on HB1.out (below2 hb2)
  have HB2 := Lib.hid hb1'
  clear hb1'
  have p1 := ((Pr.new w1 (n) (0)).alloc (.cells #[.int .i64 (1), .int .i64 (0)] 23)).keep hb2
  have p2 : Pr w2 (w1.heap.size + 1) (1) (0) := by simpa using (Pr.new (w1.alloc (.cells #[.int .i64 (n), .int .i64 (0)] 23)) (1) (0)).keep hb2
  have P1 := Lib.hid p1
  have P2 := Lib.hid p2
  obtain ⟨_, c1, c2, _, _⟩ := p1
  obtain ⟨_, d1, d2, _, _⟩ := p2
  clear hb2
  go_wp2_with fail
  refine (sub_v _ _ _ _ _ _ S.out).mono ?_
  rintro e w3 ⟨rfl, hb3⟩
  clear c1 c2 d1 d2
  obtain ⟨_, c1, c2, _, _⟩ := P1.out.on hb3
  have HB3 := Lib.hid (below_on HB2.out (below1 hb3))
  clear hb3
  go_wp2_with fail
  refine (may_v _ _ _ _ M.out).mono ?_
  rintro e w4 ⟨rfl, hb4⟩
  have HB4 := Lib.hid (below_on HB3.out (below1 hb4))
  clear hb4
  go_wp2_with fail
  go_ret
  exact ⟨rfl, HB4.out⟩

set_option maxHeartbeats 1000000 in
theorem ends_mid_true (n : Int) (w : World) (h : -1048576 < n ∧ n < 1048576) : Calls Try.prog 6 #[.int .i64 n, .bool true] w fun e w' => e = .returned (.bool true) ∧ Below w.heap.size w w' := by
  have M : Hid (okB (0) (n) = true) := by simp [Hid, okB, partB]; omega
  have A : Hid (addI (0) (n) 0 1 = true) := by simp [Hid, addI, okB, partB]; omega
  have S : Hid (subI (0) (n) 0 1 = true) := by simp [Hid, subI, okB, partB]; omega
  obtain ⟨h1, h2⟩ := h
  go_enter Try.func6, Try.ntmps6
  go_wp2_with fail
  refine (awake_any _).mono ?_
  rintro e w1 ⟨rfl, hb1⟩
  have HB1 := Lib.hid hb1
  clear hb1
  go_wp2_with fail
  refine (add_v _ _ _ _ _ _ A.out).mono ?_
  rintro e w2 ⟨rfl, hb2⟩
  have hb1' : Below w.heap.size w w2 := below_on HB1.out (below2 hb2)
  have HB2 := Lib.hid hb1'
  clear hb1'
  have p1 := ((Pr.new w1 (0) (n)).alloc (.cells #[.int .i64 (0), .int .i64 (1)] 23)).keep hb2
  have p2 : Pr w2 (w1.heap.size + 1) (0) (1) := by simpa using (Pr.new (w1.alloc (.cells #[.int .i64 (0), .int .i64 (n)] 23)) (0) (1)).keep hb2
  have P1 := Lib.hid p1
  have P2 := Lib.hid p2
  obtain ⟨_, c1, c2, _, _⟩ := p1
  obtain ⟨_, d1, d2, _, _⟩ := p2
  clear hb2
  go_wp2_with fail
  refine (sub_v _ _ _ _ _ _ S.out).mono ?_
  rintro e w3 ⟨rfl, hb3⟩
  clear c1 c2 d1 d2
  obtain ⟨_, c1, c2, _, _⟩ := P1.out.on hb3
  have HB3 := Lib.hid (below_on HB2.out (below1 hb3))
  clear hb3
  go_wp2_with fail
  refine (may_v _ _ _ _ M.out).mono ?_
  rintro e w4 ⟨rfl, hb4⟩
  have HB4 := Lib.hid (below_on HB3.out (below1 hb4))
  clear hb4
  go_wp2_with fail
  go_ret
  exact ⟨rfl, HB4.out⟩

theorem ends_walk (n : Int) (s : Bool) (w : World) : Calls Try.prog 6 #[.int .i64 n, .bool s] w fun e w' => e = .returned (.bool true) ∧ Below w.heap.size w w' := by
  have h : n < -1048576 ∨ 1048576 < n ∨ n = 1048576 ∨ n = -1048576 ∨ (-1048576 < n ∧ n < 1048576) := by omega
  cases s
  · rcases h with h | h | h | h | h
    · exact ends_lo_false n w h
    · exact ends_hi_false n w h
    · exact ends_top_false n w h
    · exact ends_bot_false n w h
    · exact ends_mid_false n w h
  · rcases h with h | h | h | h | h
    · exact ends_lo_true n w h
    · exact ends_hi_true n w h
    · exact ends_top_true n w h
    · exact ends_bot_true n w h
    · exact ends_mid_true n w h
end Go.Proofs.Ytpeggkhbdkbjmaa
