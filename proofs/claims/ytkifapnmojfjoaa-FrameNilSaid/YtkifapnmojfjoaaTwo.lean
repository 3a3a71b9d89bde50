/-
  Two things that lie apart in memory of the call's own. No function of the program is named here.
-/
import Derived.Test.YtkifapnmojfjoaaFre
namespace Go.Proofs.Ytkifapnmojfjoaa
open Go.RowKit
set_option linter.unusedSimpArgs false
set_option linter.unusedVariables false

theorem nb15 {w w' : World} (h : Below w.heap.size w w') : Fr11 (fun _ => False) w w' := Fr11.of_below h fun j h1 h2 => by omega
/-- What lies in the blocks of X, and in no other one. -/
structure Th15 where
  p : World → Prop
  X : Nat → Prop
  fr : ∀ w w' Y, p w → Fr11 Y w w' → (∀ j, X j → ¬ Y j) → p w'
  lt : ∀ w, p w → ∀ j, X j → j < w.heap.size
abbrev tN15 : Th15 := ⟨fun _ => True, fun _ => False, fun _ _ _ _ _ _ => trivial, fun _ _ _ => False.elim⟩
/-- One variable's block. -/
abbrev tB15 (P : Nat) (cs : Array Value) (t : TypeId) : Th15 := ⟨fun w => w.heap[P]? = some (.cells cs t (0, 0)), fun j => j = P, fun w w' Y h hf hx => (hf.block P (Array.getElem?_eq_some_iff.1 h).1 (hx P rfl)).trans h, fun w h j hj => by subst hj; exact (Array.getElem?_eq_some_iff.1 h).1⟩
/-- Two things that lie apart, in memory of the call's own. -/
structure Two15 (w0 w : World) (S T : Th15) : Prop where
  be : Below w0.heap.size w0 w
  s : S.p w
  t : T.p w
  los : ∀ j, S.X j → w0.heap.size ≤ j
  lot : ∀ j, T.X j → w0.heap.size ≤ j
  ap : ∀ j, S.X j → ¬ T.X j
section
variable {w0 w w' : World} {S T S' T' : Th15}
theorem Two15.left (h : Two15 w0 w S T) (hs : S'.p w') (hf : Fr11 S.X w w') (hn : ∀ j, S'.X j → S.X j ∨ w.heap.size ≤ j) : Two15 w0 w' S' T :=
  ⟨h.be.trans (hf.below fun j hj => ⟨Nat.lt_of_lt_of_le hj h.be.size, fun hx => by have := h.los j hx; omega⟩), hs, T.fr _ _ _ h.t hf (fun j hj hx => h.ap j hx hj),
    fun j hj => (hn j hj).elim (h.los j) (fun e => Nat.le_trans h.be.size e), h.lot, fun j hj ht => (hn j hj).elim (fun e => h.ap j e ht) (fun e => by have := T.lt _ h.t j ht; omega)⟩
theorem Two15.swap (h : Two15 w0 w S T) : Two15 w0 w T S := ⟨h.be, h.t, h.s, h.lot, h.los, fun j hj hx => h.ap j hx hj⟩
theorem Two15.right (h : Two15 w0 w S T) (hs : T'.p w') (hf : Fr11 T.X w w') (hn : ∀ j, T'.X j → T.X j ∨ w.heap.size ≤ j) : Two15 w0 w' S T' := (h.swap.left hs hf hn).swap
theorem Two15.keep (h : Two15 w0 w S T) (hb : Below w.heap.size w w') : Two15 w0 w' S T :=
  ⟨h.be.trans (hb.mono h.be.size), S.fr _ _ _ h.s (nb15 hb) (fun _ _ => id), T.fr _ _ _ h.t (nb15 hb) (fun _ _ => id), h.los, h.lot, h.ap⟩
/-- A third thing beside the two, put into the second. -/
abbrev and15 (S T : Th15) : Th15 := ⟨fun w => S.p w ∧ T.p w, fun j => S.X j ∨ T.X j, fun w w' Y h hf hx => ⟨S.fr _ _ _ h.1 hf (fun j hj => hx j (.inl hj)), T.fr _ _ _ h.2 hf (fun j hj => hx j (.inr hj))⟩, fun w h j hj => hj.elim (S.lt _ h.1 j) (T.lt _ h.2 j)⟩
end
end Go.Proofs.Ytkifapnmojfjoaa
