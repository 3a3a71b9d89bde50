/-
  St, Val, Val2, Vfld, Vby, Vread, Vmath, Vmt: in one text.
-/
import Derived.Test.YtmgppdjbmhjmbaaGreatLa
import Derived.Test.YtmgppdjbmhjmbaaGreatLc
import Derived.Laws.StructEq
import Derived.Lib.Bytes
namespace Go.Proofs.YtmgppdjbmhjmbaaGreat
open Go.RowKit

theorem size1 (w : World) (o : Obj) : (w.alloc o).heap.size = w.heap.size + 1 := by simp
/-- A fact on memory that a call can't break. -/
structure Fct where
  p : World → Prop
  keep : ∀ w w', p w → Below w.heap.size w w' → p w'
def Facts (w : World) : List Fct → Prop
  | [] => True
  | f :: L => f.p w ∧ Facts w L
theorem Facts.keep {w w' : World} {L : List Fct} (h : Facts w L) (hb : Below w.heap.size w w') : Facts w' L := by
  induction L with
  | nil => trivial
  | cons f L ih => exact ⟨f.keep _ _ h.1 hb, ih h.2⟩
/-- Below w0's heap nothing has changed, and the facts hold. -/
def Sx (w0 w : World) (L : List Fct) : Prop := Below w0.heap.size w0 w ∧ Facts w L
theorem Sx.call {w0 w w' : World} {L : List Fct} (h : Sx w0 w L) (hb : Below w.heap.size w w') : Sx w0 w' L := ⟨below_on h.1 hb, h.2.keep hb⟩
theorem Sx.mk1 {w0 w : World} {L : List Fct} (h : Sx w0 w L) (o : Obj) : Sx w0 (w.alloc o) L := h.call new1
theorem Sx.add {w0 w : World} {L : List Fct} (h : Sx w0 w L) (f : Fct) (hf : f.p w) : Sx w0 w (f :: L) := ⟨h.1, hf, h.2⟩
theorem Sx.start (w : World) : Sx w w [] := ⟨Below.refl _ _, trivial⟩

abbrev fR (A : Option Addr) (c : Nat) (l : List Int) : Fct := ⟨fun w => Rd w A c l, fun _ _ h hb => h.keep hb⟩
/-- Two numbers lie at block B. -/
def P2 (w : World) (B : Nat) (x y : Int) : Prop := B < w.heap.size ∧ w.cell? ⟨B, 0, none⟩ = some (.int .i64 x) ∧ w.cell? ⟨B, 1, none⟩ = some (.int .i64 y) ∧ w.frozen? ⟨B, 0, none⟩ = false ∧ w.frozen? ⟨B, 1, none⟩ = false
theorem P2.keep {w w' : World} {B : Nat} {x y : Int} (h : P2 w B x y) (hb : Below w.heap.size w w') : P2 w' B x y := by
  obtain ⟨h1, h2, h3, h4, h5⟩ := h
  obtain ⟨hc, hf⟩ := bcell hb
  exact ⟨Nat.lt_of_lt_of_le h1 hb.size, (hc _ _ h1).trans h2, (hc _ _ h1).trans h3, (hf _ _ h1).trans h4, (hf _ _ h1).trans h5⟩
theorem P2.new (w : World) (x y : Int) (t : Nat) : P2 (w.alloc (.cells #[.int .i64 x, .int .i64 y] t)) w.heap.size x y := by
  refine ⟨by simp, ?_, ?_, ?_, ?_⟩ <;> simp [go_sem]
theorem P2.other {w : World} {B : Nat} {x y : Int} (h : P2 w B x y) {p : Addr} (hp : p.block ≠ B) (v : Value) : P2 (w.setCell p v) B x y := by
  obtain ⟨h1, h2, h3, h4, h5⟩ := h
  have ne : ∀ i, p ≠ (⟨B, i, none⟩ : Addr) := fun i e => hp (by rw [e])
  refine ⟨by simpa using h1, ?_, ?_, ?_, ?_⟩
  · rw [World.cell?_setCell_other _ _ _ _ (ne 0)]; exact h2
  · rw [World.cell?_setCell_other _ _ _ _ (ne 1)]; exact h3
  · simpa using h4
  · simpa using h5
theorem Hsx.call {w0 w1 w2 : World} {L : List Fct} (hb : Below w1.heap.size w1 w2) (h : Hid (Sx w0 w1 L)) : Hid (Sx w0 w2 L) := Lib.hid (h.out.call hb)
theorem Sx.drewN {w0 w : World} {L : List Fct} (h : Sx w0 w L) (q : Nat) : Sx w0 (w.drewN q) L :=
  h.call (below_draws (Below.refl _ _) q)
theorem Hsx.drew {w0 w1 : World} {L : List Fct} (h : Hid (Sx w0 w1 L)) : Hid (Sx w0 w1.drew L) := Lib.hid (h.out.drewN 1)
/-! The cells of the first values of the list, for a region that loads beside calls. -/
end Go.Proofs.YtmgppdjbmhjmbaaGreat
namespace Go.Proofs.YtmgppdjbmhjmbaaGreat
open Go.RowKit
set_option linter.unusedSimpArgs false

/-- Whether a value is external; internal; a kind. -/
def mayB (k a b : Int) : Bool := (k == 1 && b == 0) || (k == 2 && okB a b)
end Go.Proofs.YtmgppdjbmhjmbaaGreat
namespace Go.Proofs.YtmgppdjbmhjmbaaGreat
open Go.RowKit

end Go.Proofs.YtmgppdjbmhjmbaaGreat
namespace Go.Proofs.YtmgppdjbmhjmbaaGreat
open Go.RowKit
set_option linter.unusedSimpArgs false

/-- A value's bytes, and its error. -/
def valB (k a b : Int) : List Int := if k = 1 then 1 :: digs a 8 else 2 :: (digs (a + 1048576) 3 ++ digs (b + 1048576) 3)
end Go.Proofs.YtmgppdjbmhjmbaaGreat
namespace Go.Proofs.YtmgppdjbmhjmbaaGreat
open Go.RowKit
set_option linter.unusedSimpArgs false
set_option linter.unusedVariables false

end Go.Proofs.YtmgppdjbmhjmbaaGreat
namespace Go.Proofs.YtmgppdjbmhjmbaaGreat
open Go.RowKit
set_option linter.unusedSimpArgs false
set_option linter.unusedVariables false

end Go.Proofs.YtmgppdjbmhjmbaaGreat
namespace Go.Proofs.YtmgppdjbmhjmbaaGreat
open Go.RowKit

/-- Three bytes from a on. -/
def x3 (l : List Int) (a : Nat) : Int := num ((l.drop a).take 3)
end Go.Proofs.YtmgppdjbmhjmbaaGreat
namespace Go.Proofs.YtmgppdjbmhjmbaaGreat
open Go.RowKit
set_option linter.unusedSimpArgs false
set_option linter.unusedVariables false

end Go.Proofs.YtmgppdjbmhjmbaaGreat
