/-
  awake of layer 2 returns true; the statement on the ends.
-/
import Derived.Test.YtpeggkhbdkbjmaaGref
namespace Go.Proofs.Ytpeggkhbdkbjmaa
open Go.RowKit

theorem eq_pair (d : Nat) (a b x y : Int) (w : World) : (Op.equalIn (d + 1 + 1) 23 (.agg #[.int .i64 a, .int .i64 b]) (.agg #[.int .i64 x, .int .i64 y])).run Try.prog w = .ok (a == x && b == y) w := by
  have hs : (sizeOf 2).run Try.prog w = .ok 1 w := by kernel_rfl
  have h0 : ∀ u v : Value, (part 2 #[u, v] 0).run Try.prog w = .ok u w := fun u v => by kernel_rfl
  have h1 : ∀ u v : Value, (part 2 #[u, v] 1).run Try.prog w = .ok v w := fun u v => by kernel_rfl
  have e0 : ∀ m n : Int, (Op.equalIn (d + 1) 2 (.int .i64 m) (.int .i64 n)).run Try.prog w = .ok (m == n) w := fun m n => run_equalIn_int w d _ _ _ _ _ Try.underlying2
  rw [Op.equalIn]
  simp only [Sem.run_bind, run_underlying Try.underlying23, Result.andThen_ok, hs]
  rw [Std.Legacy.Range.forIn_eq_forIn_range']
  simp [Std.Legacy.Range.size, List.range', h0, h1, e0]
  by_cases h1 : a = x <;> by_cases h2 : b = y <;> simp [h1, h2]
theorem ne_addr {B C : Nat} (h : B ≠ C) (i j : Nat) : (⟨C, i, none⟩ : Addr) ≠ ⟨B, j, none⟩ := by
  intro e
  injection e with e1 _ _
  exact h e1.symm
/-- A variable that holds the pair x, y lies at block B. -/
def Pr (w : World) (B : Nat) (x y : Int) : Prop := B < w.heap.size ∧ w.cell? ⟨B, 0, none⟩ = some (.int .i64 x) ∧ w.cell? ⟨B, 1, none⟩ = some (.int .i64 y) ∧ w.frozen? ⟨B, 0, none⟩ = false ∧ w.frozen? ⟨B, 1, none⟩ = false
theorem Pr.keep {w w' : World} {B : Nat} {x y : Int} (h : Pr w B x y) (hb : Below w.heap.size w w') : Pr w' B x y := by
  obtain ⟨h1, h2, h3, h4, h5⟩ := h
  obtain ⟨hc, hf⟩ := bcell hb
  exact ⟨Nat.lt_of_lt_of_le h1 hb.size, (hc _ _ h1).trans h2, (hc _ _ h1).trans h3, (hf _ _ h1).trans h4, (hf _ _ h1).trans h5⟩
theorem Pr.alloc {w : World} {B : Nat} {x y : Int} (h : Pr w B x y) (o : Obj) : Pr (w.alloc o) B x y := h.keep new1
theorem Pr.new (w : World) (x y : Int) : Pr (w.alloc (.cells #[.int .i64 x, .int .i64 y] 23)) w.heap.size x y := by
  refine ⟨by simp, ?_, ?_, ?_, ?_⟩ <;> simp [go_sem]
/-- Behind an allocation and a call. -/
theorem Pr.on {w w' : World} {B : Nat} {x y : Int} {o : Obj} (h : Pr w B x y) (hb : Below (w.alloc o).heap.size (w.alloc o) w') : Pr w' B x y := (h.alloc o).keep hb
theorem Pr.set {w : World} {B : Nat} {x y : Int} (h : Pr w B x y) (x' y' : Int) : Pr ((w.setCell ⟨B, 0, none⟩ (.int .i64 x')).setCell ⟨B, 1, none⟩ (.int .i64 y')) B x' y' := by
  obtain ⟨h1, h2, h3, h4, h5⟩ := h
  refine ⟨by simpa using h1, ?_, ?_, ?_, ?_⟩ <;> simp [go_sem, h2, h3, h4, h5]
theorem Pr.other {w : World} {B C : Nat} {x y : Int} (h : Pr w B x y) (hn : B ≠ C) (x' y' : Value) : Pr ((w.setCell ⟨C, 0, none⟩ x').setCell ⟨C, 1, none⟩ y') B x y := by
  obtain ⟨h1, h2, h3, h4, h5⟩ := h
  refine ⟨by simpa using h1, ?_, ?_, ?_, ?_⟩
  · rw [World.cell?_setCell_other _ _ _ _ (ne_addr hn _ _), World.cell?_setCell_other _ _ _ _ (ne_addr hn _ _)]; exact h2
  · rw [World.cell?_setCell_other _ _ _ _ (ne_addr hn _ _), World.cell?_setCell_other _ _ _ _ (ne_addr hn _ _)]; exact h3
  · simpa using h4
  · simpa using h5
theorem mul_ex (w : World) : Calls Try.prog 11 #[.agg #[.int .i64 1, .int .i64 2], .agg #[.int .i64 3, .int .i64 (-1)]] w fun e w' => e = .returned (.tuple #[.agg #[.int .i64 5, .int .i64 5], .bool true]) ∧ Below w.heap.size w w' := mul_v 1 2 3 (-1) true w (by decide)
theorem add_ex (w : World) : Calls Try.prog 7 #[.agg #[.int .i64 1048576, .int .i64 0], .agg #[.int .i64 1, .int .i64 0]] w fun e w' => e = .returned (.tuple #[.agg #[.int .i64 0, .int .i64 0], .bool false]) ∧ Below w.heap.size w w' := add_v 1048576 0 1 0 false w (by decide)
theorem conj_ex (w : World) : Calls Try.prog 13 #[.agg #[.int .i64 0, .int .i64 7]] w fun e w' => e = .returned (.tuple #[.agg #[.int .i64 0, .int .i64 (-7)], .bool true]) ∧ Below w.heap.size w w' := conj_v 0 7 true w (by decide) (by decide)
theorem measure_ex (w : World) : Calls Try.prog 17 #[.agg #[.int .i64 3, .int .i64 4]] w fun e w' => e = .returned (.int .i64 25) ∧ Below w.heap.size w w' := measure_any 3 4 w
set_option maxHeartbeats 1000000 in
theorem awake_any (w : World) : Calls Try.prog 19 #[] w fun e w' => e = .returned (.bool true) ∧ Below w.heap.size w w' := by
  go_enter Try.func19, Try.ntmps19
  go_wp2_with fail
  refine (mul_ex _).mono ?_
  rintro e w1 ⟨rfl, hb1⟩
  have HB := Lib.hid hb1
  clear hb1
  go_wp2_with fail
  refine (add_ex _).mono ?_
  rintro e w2 ⟨rfl, hb2⟩
  have P1 := Lib.hid ((Pr.new w1 5 5).keep hb2)
  have HB2 := Lib.hid (below_on HB.out (below1 hb2))
  clear hb2 HB
  go_wp2_with fail
  refine (conj_ex _).mono ?_
  rintro e w3 ⟨rfl, hb3⟩
  obtain ⟨_, c1, c2, _, _⟩ := (P1.out.on hb3)
  have HB3 := Lib.hid (below_on HB2.out (below1 hb3))
  clear hb3 HB2
  have eq := fun (a b x y : Int) (w : World) => eq_pair 9998 a b x y w
  go_wp2_with fail
  refine (measure_ex _).mono ?_
  rintro e w4 ⟨rfl, hb4⟩
  have HB4 := Lib.hid (below_on HB3.out (below1 hb4))
  go_wp2_with fail
  go_ret
  exact ⟨rfl, HB4.out⟩
end Go.Proofs.Ytpeggkhbdkbjmaa
