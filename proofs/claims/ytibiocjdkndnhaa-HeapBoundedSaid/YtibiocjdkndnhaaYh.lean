/-
  Layer 15: what two heaps hold between calls; law HeapNil; the law's awake.
-/
import Derived.Test.YtibiocjdkndnhaaYg
import Derived.Test.YtibiocjdkndnhaaYarg
namespace Go.Proofs.Ytibiocjdkndnhaa
open Go.RowKit
set_option maxRecDepth 100000
set_option linter.unusedSimpArgs false
set_option linter.unusedVariables false

/-- What lies in the blocks of X, and in no other one. -/
structure Th15 where
  p : World → Prop
  X : Nat → Prop
  fr : ∀ w w' Y, p w → Fr11 Y w w' → (∀ j, X j → ¬ Y j) → p w'
  lt : ∀ w, p w → ∀ j, X j → j < w.heap.size
abbrev tH15 (X : Nat → Prop) (B R : Nat) (Z : List (List Int)) : Th15 := ⟨fun w => Hp15 X w B R Z, X, fun _ _ _ h hf hx => h.fr hf hx, fun w h => by obtain ⟨_, _, _, _, _, _, _, _, _, h⟩ := h; exact h⟩
abbrev tR15 (X : Nat → Prop) (B R : Nat) (Z : List (List Int)) : Th15 := ⟨fun w => Rf15 X w B R Z, X, fun _ _ _ h hf hx => h.fr hf hx, fun w h => by obtain ⟨_, _, _, ⟨_, _, _, _, h⟩, _⟩ := h; exact h⟩
abbrev tW15 (X : Nat → Prop) (A : Option Addr) (c : Nat) (Z : List (List Int)) : Th15 := ⟨fun w => Wt15 X w A c Z, X, fun _ _ _ h hf hx => h.fr hf hx, fun w h => by obtain ⟨_, _, _, _, h⟩ := h; exact h⟩
abbrev tN15 : Th15 := ⟨fun _ => True, fun _ => False, fun _ _ _ _ _ _ => trivial, fun _ _ _ => False.elim⟩
/-- One variable's block. -/
abbrev tB15 (P : Nat) (cs : Array Value) (t : TypeId) : Th15 := ⟨fun w => w.heap[P]? = some (.cells cs t (0, 0)), fun j => j = P, fun w w' Y h hf hx => (hf.block P (Array.getElem?_eq_some_iff.1 h).1 (hx P rfl)).trans h, fun w h j hj => by subst hj; exact (Array.getElem?_eq_some_iff.1 h).1⟩
/-- Two things that lie apart, in memory of the call's own. -/
structure Two15 (w0 w : World) (S T : Th15) : Prop where
  be : Below w0.heap.size w0 w
  s : S.p w
  t : T.p w
  los : ∀ j, S.X j → w0.heap.size ≤ j
  lot : ∀ j, T.X j → w0.heap.size ≤ j
  ap : ∀ j, S.X j → ¬ T.X j
section
variable {w0 w w' : World} {S T S' T' : Th15}
theorem Two15.left (h : Two15 w0 w S T) (hs : S'.p w') (hf : Fr11 S.X w w') (hn : ∀ j, S'.X j → S.X j ∨ w.heap.size ≤ j) : Two15 w0 w' S' T :=
  ⟨h.be.trans (hf.below fun j hj => ⟨Nat.lt_of_lt_of_le hj h.be.size, fun hx => by have := h.los j hx; omega⟩), hs, T.fr _ _ _ h.t hf (fun j hj hx => h.ap j hx hj),
    fun j hj => (hn j hj).elim (h.los j) (fun e => Nat.le_trans h.be.size e), h.lot, fun j hj ht => (hn j hj).elim (fun e => h.ap j e ht) (fun e => by have := T.lt _ h.t j ht; omega)⟩
theorem Two15.swap (h : Two15 w0 w S T) : Two15 w0 w T S := ⟨h.be, h.t, h.s, h.lot, h.los, fun j hj hx => h.ap j hx hj⟩
theorem Two15.right (h : Two15 w0 w S T) (hs : T'.p w') (hf : Fr11 T.X w w') (hn : ∀ j, T'.X j → T.X j ∨ w.heap.size ≤ j) : Two15 w0 w' S T' := (h.swap.left hs hf hn).swap
theorem Two15.keep (h : Two15 w0 w S T) (hb : Below w.heap.size w w') : Two15 w0 w' S T :=
  ⟨h.be.trans (hb.mono h.be.size), S.fr _ _ _ h.s (nb15 hb) (fun _ _ => id), T.fr _ _ _ h.t (nb15 hb) (fun _ _ => id), h.los, h.lot, h.ap⟩
/-- A third thing beside the two, put into the second. -/
abbrev and15 (S T : Th15) : Th15 := ⟨fun w => S.p w ∧ T.p w, fun j => S.X j ∨ T.X j, fun w w' Y h hf hx => ⟨S.fr _ _ _ h.1 hf (fun j hj => hx j (.inl hj)), T.fr _ _ _ h.2 hf (fun j hj => hx j (.inr hj))⟩, fun w h j hj => hj.elim (S.lt _ h.1 j) (T.lt _ h.2 j)⟩
end
/-! HeapNil. -/
set_option maxHeartbeats 4000000 in
theorem nil15_walk (y : A15) (w : World) : Calls Try.prog 4 #[.agg (ac15 y)] w fun e w' => e = .returned (.bool true) ∧ Below w.heap.size w w' := by
  obtain ⟨k, r, i, v⟩ := y
  go_enter Try.func4, Try.ntmps4
  unfold ac15
  dsimp only
  go_wp2_with fail
  have hB : Below w.heap.size w (((w.alloc (.cells #[.int .u8 k, .int .i64 r, .int .i64 i, .int .i64 v] 31)).alloc (.cells #[.pointer none, .slice none 0 0, .slice none 0 0] 45)).alloc (.cells #[.pointer none, .pointer (some ⟨w.heap.size + 1, 0, none⟩)] 23)) :=
    (((Below.refl _ w).alloc (Nat.le_refl _) _).alloc (by rw [sz15]; omega) _).alloc (by rw [sz15, sz15]; omega) _
  obtain ⟨w1, hw1⟩ : ∃ w1, (((w.alloc (.cells #[.int .u8 k, .int .i64 r, .int .i64 i, .int .i64 v] 31)).alloc (.cells #[.pointer none, .slice none 0 0, .slice none 0 0] 45)).alloc (.cells #[.pointer none, .pointer (some ⟨w.heap.size + 1, 0, none⟩)] 23)) = w1 := ⟨_, rfl⟩
  have HL : Hid (∀ j, j < 2 → ∃ p, w1.cell? ⟨w.heap.size + 1 + 1, j, none⟩ = some (.pointer p) ∧ No15 w1 (.pointer p)) := Lib.hid (by
    subst hw1
    intro j hj
    match j, hj with
    | 0, _ => exact ⟨none, by simp [go_sem], .inl rfl⟩
    | 1, _ => exact ⟨some ⟨w.heap.size + 1, 0, none⟩, by simp [go_sem], .inr ⟨w.heap.size + 1, rfl, by simp [go_sem]⟩⟩)
  have HA : Hid (w1.cell? ⟨w.heap.size, 1, none⟩ = some (.int .i64 r) ∧ w1.cell? ⟨w.heap.size, 2, none⟩ = some (.int .i64 i) ∧ w1.cell? ⟨w.heap.size, 3, none⟩ = some (.int .i64 v)) := Lib.hid (by
    subst hw1
    refine ⟨?_, ?_, ?_⟩ <;> simp [go_sem])
  have HB := Lib.hid (hw1 ▸ hB)
  rw [hw1]
  clear hw1 hB
  generalize (w.heap.size : Nat) = Q at HA HL ⊢
  generalize Q + 1 + 1 = P at HL ⊢
  go_loopw [5] (fun iv wr => ∃ j : Nat, j ≤ 2 ∧ iv = .int .i64 j ∧ Hid (Below w1.heap.size w1 wr)) (fun iv _ => 2 - (intOf iv).toNat)
  case atStart => exact ⟨0, by omega, rfl, Lib.hid (Below.refl _ _)⟩
  case round =>
    obtain ⟨j, hj, rfl, HR⟩ := hrel
    rename World => wr
    by_cases h1 : j < 2
    · obtain ⟨p, hp, hno⟩ := HL.out j h1
      obtain ⟨a1, a2, a3⟩ := HA.out
      have K := fun {q : Addr} {x : Value} (h : w1.cell? q = some x) => (HR.out.cell (cell_lt h)).trans h
      have hp := K hp
      have a1 := K a1
      have a2 := K a2
      have a3 := K a3
      have HN := Lib.hid (hno.keep15 HR.out)
      clear hno K
      have HM := Lib.hid (makeN_v (.pointer p) v wr HN.out)
      have HT := Lib.hid (atN_v (.pointer p) r i wr HN.out)
      have HE := Lib.hid (lenN_v (.pointer p) r wr HN.out)
      have HP := Lib.hid (putN_v (.pointer p) r i v wr HN.out)
      have HU := Lib.hid (usedN_v p wr HN.out)
      go_wp2_with fail
      refine HM.out.mono ?_
      rintro e w2 ⟨rfl, rfl⟩
      go_wp2_with fail
      refine HT.out.mono ?_
      rintro e w2 ⟨rfl, rfl⟩
      go_wp2_with fail
      refine HE.out.mono ?_
      rintro e w2 ⟨rfl, rfl⟩
      go_wp2_with fail
      refine HP.out.mono ?_
      rintro e w2 ⟨rfl, rfl⟩
      go_wp2_with fail
      refine HU.out.mono ?_
      rintro e w3 ⟨rfl, hb⟩
      have HR3 := Lib.hid (HR.out.trans (hb.mono HR.out.size))
      clear hb hp a1 a2 a3
      go_wp2_with fail
      go_roundw
      case rel => exact ⟨j + 1, by omega, by go_num, HR3⟩
      case measure => simp [intOf]; omega
    · obtain rfl : j = 2 := by omega
      go_wp2_with fail
      go_ret
      exact ⟨rfl, HB.out.trans (HR.out.mono HB.out.size)⟩
/-! awake. -/
set_option maxHeartbeats 8000000 in
theorem awake15_v (w : World) : Calls Try.prog 19 #[] w fun e w' => e = .returned (.bool true) ∧ Below w.heap.size w w' := by
  have N1 := Lib.hid (new15_v 3 w (by omega))
  go_enter Try.func19, Try.ntmps19
  go_wp2_with fail
  refine N1.out.mono ?_
  rintro e w1 ⟨B, X0, rfl, hp, hb, hx⟩
  have S1 : Hid (Two15 w w1 (tH15 X0 B 3 [[]]) tN15) := Lib.hid ⟨hb, hp, trivial, hx, fun _ => False.elim, fun _ _ => id⟩
  clear hp hb hx N1
  have N2 := Lib.hid (new15_no 1025 w1 (by omega))
  go_wp2_with fail
  refine N2.out.mono ?_
  rintro e w2 ⟨rfl, rfl⟩
  clear N2
  have M1 := Lib.hid (make15_v X0 B 3 [[]] 2 _ S1.out.s (by decide))
  have q1 : mkN15 3 [[]] 2 = 1 := by decide
  have q2 : mkE15 3 [[]] 2 = 0 := by decide
  have q3 : mkZ15 3 [[]] 2 = [[], [0, 0]] := by decide
  rw [q1, q2, q3] at M1
  clear q1 q2 q3
  go_wp2_with fail
  refine M1.out.mono ?_
  rintro e w2 ⟨rfl, X1, hp, hf, hn⟩
  have S2 : Hid (Two15 w w2 (tH15 X1 B 3 [[], [0, 0]]) tN15) := Lib.hid (S1.out.left hp hf hn)
  clear hp hf hn M1 S1
  have M2 := Lib.hid (make15_v X1 B 3 [[], [0, 0]] 2 _ S2.out.s (by decide))
  have q1 : mkN15 3 [[], [0, 0]] 2 = 0 := by decide
  have q2 : mkE15 3 [[], [0, 0]] 2 = 4 := by decide
  have q3 : mkZ15 3 [[], [0, 0]] 2 = [[], [0, 0]] := by decide
  rw [q1, q2, q3] at M2
  clear q1 q2 q3
  go_wp2_with fail
  refine M2.out.mono ?_
  rintro e w3 ⟨rfl, X2, hp, hf, hn⟩
  have S3 : Hid (Two15 w w3 (tH15 X2 B 3 [[], [0, 0]]) tN15) := Lib.hid (S2.out.left hp hf hn)
  clear hp hf hn M2 S2
  have M3 := Lib.hid (make15_v X2 B 3 [[], [0, 0]] 0 _ S3.out.s (by decide))
  have q1 : mkN15 3 [[], [0, 0]] 0 = 2 := by decide
  have q2 : mkE15 3 [[], [0, 0]] 0 = 0 := by decide
  have q3 : mkZ15 3 [[], [0, 0]] 0 = [[], [0, 0], []] := by decide
  rw [q1, q2, q3] at M3
  clear q1 q2 q3
  go_wp2_with fail
  refine M3.out.mono ?_
  rintro e w4 ⟨rfl, X3, hp, hf, hn⟩
  have S4 : Hid (Two15 w w4 (tH15 X3 B 3 [[], [0, 0], []]) tN15) := Lib.hid (S3.out.left hp hf hn)
  clear hp hf hn M3 S3
  have M4 := Lib.hid (make15_v X3 B 3 [[], [0, 0], []] 1 _ S4.out.s (by decide))
  have q1 : mkN15 3 [[], [0, 0], []] 1 = 3 := by decide
  have q2 : mkE15 3 [[], [0, 0], []] 1 = 0 := by decide
  have q3 : mkZ15 3 [[], [0, 0], []] 1 = [[], [0, 0], [], [0]] := by decide
  rw [q1, q2, q3] at M4
  clear q1 q2 q3
  go_wp2_with fail
  refine M4.out.mono ?_
  rintro e w5 ⟨rfl, X4, hp, hf, hn⟩
  have S5 : Hid (Two15 w w5 (tH15 X4 B 3 [[], [0, 0], [], [0]]) tN15) := Lib.hid (S4.out.left hp hf hn)
  clear hp hf hn M4 S4
  have P5 := Lib.hid (put15_v X4 B 3 [[], [0, 0], [], [0]] 1 1 7 _ S5.out.s (by decide))
  have q1 : pl15 [[], [0, 0], [], [0]] 1 1 = true := by decide
  have q3 : put15 [[], [0, 0], [], [0]] 1 1 7 = [[], [0, 7], [], [0]] := by decide
  rw [q1, q3] at P5
  clear q1 q3
  go_wp2_with fail
  refine P5.out.mono ?_
  rintro e w6 ⟨rfl, hp, hf⟩
  have S6 : Hid (Two15 w w6 (tH15 X4 B 3 [[], [0, 7], [], [0]]) tN15) := Lib.hid (S5.out.left hp hf fun _ => .inl)
  clear hp hf P5 S5
  have A6 := Lib.hid (at15_v X4 B 3 [[], [0, 7], [], [0]] 1 1 _ S6.out.s (by decide))
  have A7 := Lib.hid (at15_v X4 B 3 [[], [0, 7], [], [0]] 1 2 _ S6.out.s (by decide))
  have L8 := Lib.hid (len15_v X4 B 3 [[], [0, 7], [], [0]] 0 _ S6.out.s (by decide))
  have U9 := Lib.hid (used15_v X4 B 3 [[], [0, 7], [], [0]] _ S6.out.s (by decide))
  have q1 : at15 [[], [0, 7], [], [0]] 1 1 = 7 := by decide
  have q2 : pl15 [[], [0, 7], [], [0]] 1 1 = true := by decide
  have q3 : at15 [[], [0, 7], [], [0]] 1 2 = 0 := by decide
  have q4 : pl15 [[], [0, 7], [], [0]] 1 2 = false := by decide
  have q5 : (((row15 [[], [0, 7], [], [0]] 0).length : Nat) : Int) = 0 := by decide
  have q6 : is15 [[], [0, 7], [], [0]] 0 = true := by decide
  have q7 : ((us15 [[], [0, 7], [], [0]] : Nat) : Int) = 3 := by decide
  rw [q1, q2] at A6
  rw [q3, q4] at A7
  rw [q5, q6] at L8
  rw [q7] at U9
  clear q1 q2 q3 q4 q5 q6 q7
  go_wp2_with fail
  refine A6.out.mono ?_
  rintro e w7 ⟨rfl, rfl⟩
  go_wp2_with fail
  refine A7.out.mono ?_
  rintro e w7 ⟨rfl, rfl⟩
  go_wp2_with fail
  refine L8.out.mono ?_
  rintro e w7 ⟨rfl, rfl⟩
  go_wp2_with fail
  refine U9.out.mono ?_
  rintro e w8 ⟨rfl, hb⟩
  have S9 := Lib.hid (S6.out.keep hb)
  clear hb A6 A7 L8 U9 S6
  go_wp2_with fail
  go_ret
  exact ⟨rfl, S9.out.be⟩
end Go.Proofs.Ytibiocjdkndnhaa
