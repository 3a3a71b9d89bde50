/-
  What stays behind a call: all blocks but some, and new ones. No function of the program is named here.
-/
import Derived.Test.YtkifapnmojfjoaaLa
import Derived.RangeFuncBox
import Derived.RangeFuncWrites
namespace Go.Proofs.Ytkifapnmojfjoaa
open Go.RowKit
set_option linter.unusedSimpArgs false
set_option linter.unusedVariables false

/-- w' is w but for the blocks of X, and new ones. -/
structure Fr11 (X : Nat → Prop) (w w' : World) : Prop where
  os : w'.os = w.os
  tape : w'.tape = w.tape
  output : w'.output = w.output
  size : w.heap.size ≤ w'.heap.size
  block : ∀ j, j < w.heap.size → ¬ X j → w'.heap[j]? = w.heap[j]?
section
variable {X Y : Nat → Prop} {w w' w2 : World}
theorem Fr11.refl (X : Nat → Prop) (w : World) : Fr11 X w w := ⟨rfl, rfl, rfl, Nat.le_refl _, fun _ _ _ => rfl⟩
theorem Fr11.trans (h : Fr11 X w w') (k : Fr11 Y w' w2) (hY : ∀ j, j < w.heap.size → Y j → X j) : Fr11 X w w2 :=
  ⟨k.os.trans h.os, k.tape.trans h.tape, k.output.trans h.output, Nat.le_trans h.size k.size, fun j hj hx => (k.block j (Nat.lt_of_lt_of_le hj h.size) fun hy => hx (hY j hj hy)).trans (h.block j hj hx)⟩
theorem Fr11.mono (h : Fr11 X w w') (hX : ∀ j, X j → Y j) : Fr11 Y w w' := ⟨h.os, h.tape, h.output, h.size, fun j hj hy => h.block j hj fun hx => hy (hX j hx)⟩
theorem Fr11.drewN (h : Fr11 X w w') (q : Nat) : Fr11 X w (w'.drewN q) := by
  refine ⟨?_, ?_, ?_, ?_, fun j hj hx => ?_⟩ <;> induction q with
  | zero => first | exact h.os | exact h.tape | exact h.output | exact h.size | exact h.block j hj hx
  | succ q ih => exact ih
theorem Fr11.alloc (h : Fr11 X w w') (o : Obj) : Fr11 X w (w'.alloc o) := by
  refine ⟨h.os, h.tape, h.output, ?_, fun j hj hx => ?_⟩
  · have := h.size; simp; omega
  · exact (Below.heap_alloc w' o j (Nat.lt_of_lt_of_le hj h.size)).trans (h.block j hj hx)
theorem Fr11.set (h : Fr11 X w w') {p : Addr} (hp : w.heap.size ≤ p.block ∨ X p.block) (u : Value) : Fr11 X w (w'.setCell p u) := by
  refine ⟨h.os, h.tape, h.output, ?_, fun j hj hx => ?_⟩
  · simpa using h.size
  · exact (Below.heap_setCell w' p u j (fun e => by subst e; rcases hp with hp | hp; omega; exact hx hp)).trans (h.block j hj hx)
theorem Fr11.of_below {B : Nat} (h : Below B w w') (hB : ∀ j, B ≤ j → j < w.heap.size → X j) : Fr11 X w w' := ⟨h.os, h.tape, h.output, h.size, fun j hj hx => h.block j (by
  by_cases e : B ≤ j
  · exact absurd (hB j e hj) hx
  · omega)⟩
theorem Fr11.of_grown {row : Option Nat} (h : w.grownBy w' row) (hX : ∀ j, some j = row → X j) : Fr11 X w w' := ⟨h.os, h.tape, h.output, h.size, fun j hj hx => h.block j hj fun e => hx (hX j e)⟩
theorem Fr11.below (h : Fr11 X w w') {B : Nat} (hB : ∀ j, j < B → j < w.heap.size ∧ ¬ X j) : Below B w w' := ⟨h.os, h.tape, h.output, h.size, fun j hj => h.block j (hB j hj).1 (hB j hj).2⟩
theorem Fr11.own (h : Fr11 X w w') {base e size n : Nat} {v : Value} {xs : List Value} (ho : w.ownsRow base e size v n xs) (hv : ∀ g, v.ownBlock = some g → ¬ X g) : w'.ownsRow base e size v n xs := by
  obtain ⟨h1, h2⟩ := ho
  refine ⟨h1, ?_⟩
  rcases h2 with h2 | ⟨g, cap, cur, rfl, hg, hh, r⟩
  · exact .inl h2
  · exact .inr ⟨g, cap, cur, rfl, hg, (h.block g (Array.getElem?_eq_some_iff.1 hh).1 (hv g rfl)).trans hh, r⟩
theorem Fr11.box (h : Fr11 X w w') {B t : Nat} {v : Value} (hb : Boxed w B t v) (hx : ¬ X B) : Boxed w' B t v := (h.block B hb.lt hx).trans hb
end
end Go.Proofs.Ytkifapnmojfjoaa
