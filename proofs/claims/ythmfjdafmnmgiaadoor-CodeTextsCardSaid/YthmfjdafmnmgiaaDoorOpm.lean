/-
  Layer 4: an instruction in memory; what May answers, for every instruction; the reference's too.
-/
import Derived.Test.YthmfjdafmnmgiaaDoorOp
namespace Go.Proofs.YthmfjdafmnmgiaaDoor
open Go.RowKit
set_option linter.unusedSimpArgs false
set_option linter.unusedVariables false

/-- An instruction lies at block B. -/
def In (w : World) (B : Nat) (k a b : Int) : Prop := B < w.heap.size ∧ w.cell? ⟨B, 0, none⟩ = some (.int .u8 k) ∧ w.cell? ⟨B, 1, none⟩ = some (.int .i64 a) ∧ w.cell? ⟨B, 2, none⟩ = some (.int .i64 b) ∧
  w.frozen? ⟨B, 0, none⟩ = false ∧ w.frozen? ⟨B, 1, none⟩ = false ∧ w.frozen? ⟨B, 2, none⟩ = false
theorem In.keep {w w' : World} {B : Nat} {k a b : Int} (h : In w B k a b) (hb : Below w.heap.size w w') : In w' B k a b := by
  obtain ⟨h1, h2, h3, h4, h5, h6, h7⟩ := h
  obtain ⟨hc, hf⟩ := bcell hb
  exact ⟨Nat.lt_of_lt_of_le h1 hb.size, (hc _ _ h1).trans h2, (hc _ _ h1).trans h3, (hc _ _ h1).trans h4, (hf _ _ h1).trans h5, (hf _ _ h1).trans h6, (hf _ _ h1).trans h7⟩
theorem In.new (w : World) (k a b : Int) : In (w.alloc (.cells #[.int .u8 k, .int .i64 a, .int .i64 b] 47)) w.heap.size k a b := by
  refine ⟨by simp, ?_, ?_, ?_, ?_, ?_, ?_⟩ <;> simp [go_sem]
theorem In.set1 {w : World} {B : Nat} {k a b : Int} (h : In w B k a b) (a' : Int) : In (w.setCell ⟨B, 1, none⟩ (.int .i64 a')) B k a' b := by
  obtain ⟨h1, h2, h3, h4, h5, h6, h7⟩ := h
  refine ⟨by simpa using h1, ?_, ?_, ?_, ?_, ?_, ?_⟩ <;> simp [go_sem, h2, h3, h4, h5, h6, h7]
theorem In.set2 {w : World} {B : Nat} {k a b : Int} (h : In w B k a b) (b' : Int) : In (w.setCell ⟨B, 2, none⟩ (.int .i64 b')) B k a b' := by
  obtain ⟨h1, h2, h3, h4, h5, h6, h7⟩ := h
  refine ⟨by simpa using h1, ?_, ?_, ?_, ?_, ?_, ?_⟩ <;> simp [go_sem, h2, h3, h4, h5, h6, h7]
abbrev fI (B : Nat) (k a b : Int) : Fct := ⟨fun w => In w B k a b, fun _ _ h hb => h.keep hb⟩

theorem omay_v (k a b : Int) (v : Bool) (w : World) (h : opM k a b = v) : Calls Tryd.prog 29 #[.agg #[.int .u8 k, .int .i64 a, .int .i64 b]] w fun e w' => e = .returned (.bool v) ∧ Below w.heap.size w w' := by
  subst h
  have hB := Lib.hid (bounds_any k (w.alloc (.cells #[.int .u8 k, .int .i64 a, .int .i64 b] 47)))
  obtain ⟨p, hp⟩ : ∃ p, opLo k = p := ⟨_, rfl⟩
  obtain ⟨q, hq⟩ : ∃ q, opHi k = q := ⟨_, rfl⟩
  rw [opM, hp, hq]
  rw [hp, hq] at hB
  clear hp hq
  go_enter Tryd.func29, Tryd.ntmps29
  go_wp2_with fail
  refine hB.out.mono ?_
  rintro e w1 ⟨rfl, rfl⟩
  clear hB
  go_wp2_with fail
  all_goals go_ret
  all_goals (refine ⟨?_, new1⟩; simp_all [go_sem] <;> omega)
theorem r4may_v (k a b : Int) (v : Bool) (w : World) (h : opM k a b = v) : Calls Tryd.prog 30 #[.agg #[.int .u8 k, .int .i64 a, .int .i64 b]] w fun e w' => e = .returned (.bool v) ∧ Below w.heap.size w w' := by
  subst h
  have hB := Lib.hid (r4bounds_any k (w.alloc (.cells #[.int .u8 k, .int .i64 a, .int .i64 b] 47)))
  obtain ⟨p, hp⟩ : ∃ p, opLo k = p := ⟨_, rfl⟩
  obtain ⟨q, hq⟩ : ∃ q, opHi k = q := ⟨_, rfl⟩
  rw [opM, hp, hq]
  rw [hp, hq] at hB
  clear hp hq
  go_enter Tryd.func30, Tryd.ntmps30
  go_wp2_with fail
  refine hB.out.mono ?_
  rintro e w1 ⟨rfl, rfl⟩
  clear hB
  go_wp2_with fail
  all_goals go_ret
  all_goals (refine ⟨?_, new1⟩; simp_all [go_sem] <;> omega)
end Go.Proofs.YthmfjdafmnmgiaaDoor
