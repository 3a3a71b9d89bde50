/-
  Op, Opn, Opm: in one text.
-/
import Derived.Test.YtmgppdjbmhjmbaaLd
import Derived.Lib.Bytes
namespace Go.Proofs.Ytmgppdjbmhjmbaa
open Go.RowKit
set_option linter.unusedSimpArgs false
set_option linter.unusedVariables false

/-- Whether it is an opcode; whether its operand leads elsewhere; whether it goes on; the least and the greatest operand. -/
def opK (n : Int) : Bool := decide (n < 33)
def opL (n : Int) : Bool := n == 26 || n == 27 || n == 29
def opG (n : Int) : Bool := opK n && n != 26 && n != 31 && n != 32
def opLo (n : Int) : Int := if n = 28 then 1 else 0
def opHi (n : Int) : Int :=
  if n = 1 then 31 else if n = 2 ∨ n = 3 ∨ n = 30 then 15 else if n = 4 ∨ n = 5 then 3 else if n = 22 then 1024 else if n = 26 ∨ n = 27 ∨ n = 29 then 199 else if n = 28 then 100 else if n = 32 then 255 else if n < 33 then 0 else -1
/-- Whether an instruction may be. -/
def opM (n a b : Int) : Bool := decide (opLo n ≤ a) && decide (a ≤ opHi n) && b == 0
theorem known_any (n : Int) (w : World) : Calls Try.prog 62 #[.int .u8 n] w fun e w' => e = .returned (.bool (opK n)) ∧ w = w' := by
  go_enter Try.func62, Try.ntmps62
  go_wp2_with fail
  go_ret
  exact ⟨rfl, rfl⟩
theorem leads_any (n : Int) (w : World) : Calls Try.prog 40 #[.int .u8 n] w fun e w' => e = .returned (.bool (opL n)) ∧ w = w' := by
  go_enter Try.func40, Try.ntmps40
  go_wp2_with fail
  all_goals go_ret
  all_goals (refine ⟨?_, rfl⟩; simp [opL, go_sem, *])
theorem goes_any (n : Int) (w : World) : Calls Try.prog 42 #[.int .u8 n] w fun e w' => e = .returned (.bool (opG n)) ∧ w = w' := by
  go_enter Try.func42, Try.ntmps42
  go_wp2_with fail
  refine (known_any _ _).mono ?_
  rintro e w1 ⟨rfl, rfl⟩
  cases hk : opK n
  all_goals go_wp2_with fail
  all_goals go_ret
  all_goals (refine ⟨?_, rfl⟩; simp [opG, go_sem, *])
set_option maxHeartbeats 2000000 in
theorem bounds_any (n : Int) (w : World) : Calls Try.prog 89 #[.int .u8 n] w fun e w' => e = .returned (.tuple #[.int .i64 (opLo n), .int .i64 (opHi n)]) ∧ w = w' := by
  go_enter Try.func89, Try.ntmps89
  go_wp2_with (first | (go_at_call 62; refine (known_any _ _).mono ?_; rintro e w1 ⟨rfl, rfl⟩; cases hk : opK n) | fail)
  all_goals (try go_wp2_with fail)
  all_goals go_ret2
  all_goals (refine ⟨?_, rfl⟩; simp_all [opLo, opHi, opK, go_sem])
end Go.Proofs.Ytmgppdjbmhjmbaa
namespace Go.Proofs.Ytmgppdjbmhjmbaa
open Go.RowKit
set_option linter.unusedSimpArgs false
set_option linter.unusedVariables false

end Go.Proofs.Ytmgppdjbmhjmbaa
namespace Go.Proofs.Ytmgppdjbmhjmbaa
open Go.RowKit
set_option linter.unusedSimpArgs false
set_option linter.unusedVariables false

/-- An instruction lies at block B. -/
def In (w : World) (B : Nat) (k a b : Int) : Prop := B < w.heap.size ∧ w.cell? ⟨B, 0, none⟩ = some (.int .u8 k) ∧ w.cell? ⟨B, 1, none⟩ = some (.int .i64 a) ∧ w.cell? ⟨B, 2, none⟩ = some (.int .i64 b) ∧
  w.frozen? ⟨B, 0, none⟩ = false ∧ w.frozen? ⟨B, 1, none⟩ = false ∧ w.frozen? ⟨B, 2, none⟩ = false
theorem In.keep {w w' : World} {B : Nat} {k a b : Int} (h : In w B k a b) (hb : Below w.heap.size w w') : In w' B k a b := by
  obtain ⟨h1, h2, h3, h4, h5, h6, h7⟩ := h
  obtain ⟨hc, hf⟩ := bcell hb
  exact ⟨Nat.lt_of_lt_of_le h1 hb.size, (hc _ _ h1).trans h2, (hc _ _ h1).trans h3, (hc _ _ h1).trans h4, (hf _ _ h1).trans h5, (hf _ _ h1).trans h6, (hf _ _ h1).trans h7⟩
theorem In.new (w : World) (k a b : Int) : In (w.alloc (.cells #[.int .u8 k, .int .i64 a, .int .i64 b] 61)) w.heap.size k a b := by
  refine ⟨by simp, ?_, ?_, ?_, ?_, ?_, ?_⟩ <;> simp [go_sem]
theorem In.set1 {w : World} {B : Nat} {k a b : Int} (h : In w B k a b) (a' : Int) : In (w.setCell ⟨B, 1, none⟩ (.int .i64 a')) B k a' b := by
  obtain ⟨h1, h2, h3, h4, h5, h6, h7⟩ := h
  refine ⟨by simpa using h1, ?_, ?_, ?_, ?_, ?_, ?_⟩ <;> simp [go_sem, h2, h3, h4, h5, h6, h7]
theorem In.set2 {w : World} {B : Nat} {k a b : Int} (h : In w B k a b) (b' : Int) : In (w.setCell ⟨B, 2, none⟩ (.int .i64 b')) B k a b' := by
  obtain ⟨h1, h2, h3, h4, h5, h6, h7⟩ := h
  refine ⟨by simpa using h1, ?_, ?_, ?_, ?_, ?_, ?_⟩ <;> simp [go_sem, h2, h3, h4, h5, h6, h7]
abbrev fI (B : Nat) (k a b : Int) : Fct := ⟨fun w => In w B k a b, fun _ _ h hb => h.keep hb⟩

theorem omay_v (k a b : Int) (v : Bool) (w : World) (h : opM k a b = v) : Calls Try.prog 69 #[.agg #[.int .u8 k, .int .i64 a, .int .i64 b]] w fun e w' => e = .returned (.bool v) ∧ Below w.heap.size w w' := by
  subst h
  have hB := Lib.hid (bounds_any k (w.alloc (.cells #[.int .u8 k, .int .i64 a, .int .i64 b] 61)))
  obtain ⟨p, hp⟩ : ∃ p, opLo k = p := ⟨_, rfl⟩
  obtain ⟨q, hq⟩ : ∃ q, opHi k = q := ⟨_, rfl⟩
  rw [opM, hp, hq]
  rw [hp, hq] at hB
  clear hp hq
  go_enter Try.func69, Try.ntmps69
  go_wp2_with fail
  refine hB.out.mono ?_
  rintro e w1 ⟨rfl, rfl⟩
  clear hB
  go_wp2_with fail
  all_goals go_ret
  all_goals (refine ⟨?_, new1⟩; simp_all [go_sem] <;> omega)
end Go.Proofs.Ytmgppdjbmhjmbaa
