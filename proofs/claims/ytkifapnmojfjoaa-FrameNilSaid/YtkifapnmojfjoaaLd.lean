/-
  St, Val: in one text.
-/
import Derived.Test.YtkifapnmojfjoaaLa
import Derived.Test.YtkifapnmojfjoaaLc
import Derived.Laws.StructEq
namespace Go.Proofs.Ytkifapnmojfjoaa
open Go.RowKit

theorem size1 (w : World) (o : Obj) : (w.alloc o).heap.size = w.heap.size + 1 := by simp
/-- A fact on memory that a call can't break. -/
structure Fct where
  p : World → Prop
  keep : ∀ w w', p w → Below w.heap.size w w' → p w'
def Facts (w : World) : List Fct → Prop
  | [] => True
  | f :: L => f.p w ∧ Facts w L
theorem Facts.keep {w w' : World} {L : List Fct} (h : Facts w L) (hb : Below w.heap.size w w') : Facts w' L := by
  induction L with
  | nil => trivial
  | cons f L ih => exact ⟨f.keep _ _ h.1 hb, ih h.2⟩
/-- Below w0's heap nothing has changed, and the facts hold. -/
def Sx (w0 w : World) (L : List Fct) : Prop := Below w0.heap.size w0 w ∧ Facts w L
theorem Sx.call {w0 w w' : World} {L : List Fct} (h : Sx w0 w L) (hb : Below w.heap.size w w') : Sx w0 w' L := ⟨below_on h.1 hb, h.2.keep hb⟩
/-- Behind a write to memory of the walk's own: what lies below the world of the facts. -/
theorem Sx.onto {w0 w w' : World} {L : List Fct} (h : Sx w0 w L) (hb : Below w.heap.size w w') : Sx w0 w' L := h.call hb
theorem Sx.mk1 {w0 w : World} {L : List Fct} (h : Sx w0 w L) (o : Obj) : Sx w0 (w.alloc o) L := h.call new1
theorem Sx.add {w0 w : World} {L : List Fct} (h : Sx w0 w L) (f : Fct) (hf : f.p w) : Sx w0 w (f :: L) := ⟨h.1, hf, h.2⟩
theorem Sx.start (w : World) : Sx w w [] := ⟨Below.refl _ _, trivial⟩

/-- A value of three cells (a kind and two numbers) lies at block B. -/
def Vl (w : World) (B : Nat) (k a b : Int) : Prop := B < w.heap.size ∧ w.cell? ⟨B, 0, none⟩ = some (.int .u8 k) ∧ w.cell? ⟨B, 1, none⟩ = some (.int .i64 a) ∧ w.cell? ⟨B, 2, none⟩ = some (.int .i64 b) ∧
  w.frozen? ⟨B, 0, none⟩ = false ∧ w.frozen? ⟨B, 1, none⟩ = false ∧ w.frozen? ⟨B, 2, none⟩ = false
theorem Vl.keep {w w' : World} {B : Nat} {k a b : Int} (h : Vl w B k a b) (hb : Below w.heap.size w w') : Vl w' B k a b := by
  obtain ⟨h1, h2, h3, h4, h5, h6, h7⟩ := h
  obtain ⟨hc, hf⟩ := bcell hb
  exact ⟨Nat.lt_of_lt_of_le h1 hb.size, (hc _ _ h1).trans h2, (hc _ _ h1).trans h3, (hc _ _ h1).trans h4, (hf _ _ h1).trans h5, (hf _ _ h1).trans h6, (hf _ _ h1).trans h7⟩
theorem Vl.keep_d {w w' : World} {B : Nat} {k a b : Int} (h : Vl w B k a b) (hb : Below w.drew.heap.size w.drew w') : Vl w' B k a b := Vl.keep (w := w.drew) h hb
theorem Vl.new (w : World) (k a b : Int) : Vl (w.alloc (.cells #[.int .u8 k, .int .i64 a, .int .i64 b] 33)) w.heap.size k a b := by
  refine ⟨by simp, ?_, ?_, ?_, ?_, ?_, ?_⟩ <;> simp [go_sem]
theorem Vl.alloc {w : World} {B : Nat} {k a b : Int} (h : Vl w B k a b) (o : Obj) : Vl (w.alloc o) B k a b := h.keep new1
theorem Vl.set0 {w : World} {B : Nat} {k a b : Int} (h : Vl w B k a b) (k' : Int) : Vl (w.setCell ⟨B, 0, none⟩ (.int .u8 k')) B k' a b := by
  obtain ⟨h1, h2, h3, h4, h5, h6, h7⟩ := h
  refine ⟨by simpa using h1, ?_, ?_, ?_, ?_, ?_, ?_⟩ <;> simp [go_sem, h2, h3, h4, h5, h6, h7]
theorem Vl.set1 {w : World} {B : Nat} {k a b : Int} (h : Vl w B k a b) (a' : Int) : Vl (w.setCell ⟨B, 1, none⟩ (.int .i64 a')) B k a' b := by
  obtain ⟨h1, h2, h3, h4, h5, h6, h7⟩ := h
  refine ⟨by simpa using h1, ?_, ?_, ?_, ?_, ?_, ?_⟩ <;> simp [go_sem, h2, h3, h4, h5, h6, h7]
theorem Vl.set2 {w : World} {B : Nat} {k a b : Int} (h : Vl w B k a b) (b' : Int) : Vl (w.setCell ⟨B, 2, none⟩ (.int .i64 b')) B k a b' := by
  obtain ⟨h1, h2, h3, h4, h5, h6, h7⟩ := h
  refine ⟨by simpa using h1, ?_, ?_, ?_, ?_, ?_, ?_⟩ <;> simp [go_sem, h2, h3, h4, h5, h6, h7]
theorem Vl.other {w : World} {B : Nat} {k a b : Int} (h : Vl w B k a b) {p : Addr} (hp : p.block ≠ B) (v : Value) : Vl (w.setCell p v) B k a b := by
  obtain ⟨h1, h2, h3, h4, h5, h6, h7⟩ := h
  have ne : ∀ i, p ≠ (⟨B, i, none⟩ : Addr) := fun i e => hp (by rw [e])
  refine ⟨by simpa using h1, ?_, ?_, ?_, ?_, ?_, ?_⟩
  · rw [World.cell?_setCell_other _ _ _ _ (ne 0)]; exact h2
  · rw [World.cell?_setCell_other _ _ _ _ (ne 1)]; exact h3
  · rw [World.cell?_setCell_other _ _ _ _ (ne 2)]; exact h4
  · simpa using h5
  · simpa using h6
  · simpa using h7
abbrev fV (B : Nat) (k a b : Int) : Fct := ⟨fun w => Vl w B k a b, fun _ _ h hb => h.keep hb⟩
abbrev fR (A : Option Addr) (c : Nat) (l : List Int) : Fct := ⟨fun w => Rd w A c l, fun _ _ h hb => h.keep hb⟩
theorem Sx.newV {w0 w w' : World} {L : List Fct} (h : Sx w0 w L) {k a b : Int} (hb : Below (w.alloc (.cells #[.int .u8 k, .int .i64 a, .int .i64 b] 33)).heap.size (w.alloc (.cells #[.int .u8 k, .int .i64 a, .int .i64 b] 33)) w') : Sx w0 w' (fV w.heap.size k a b :: L) :=
  ((h.mk1 _).add (fV w.heap.size k a b) (Vl.new w k a b)).call hb
theorem Sx.mkV {w0 w : World} {L : List Fct} (h : Sx w0 w L) (k a b : Int) : Sx w0 (w.alloc (.cells #[.int .u8 k, .int .i64 a, .int .i64 b] 33)) (fV w.heap.size k a b :: L) := h.newV (Below.refl _ _)

/-- Two numbers lie at block B. -/
def P2 (w : World) (B : Nat) (x y : Int) : Prop := B < w.heap.size ∧ w.cell? ⟨B, 0, none⟩ = some (.int .i64 x) ∧ w.cell? ⟨B, 1, none⟩ = some (.int .i64 y) ∧ w.frozen? ⟨B, 0, none⟩ = false ∧ w.frozen? ⟨B, 1, none⟩ = false
theorem P2.keep {w w' : World} {B : Nat} {x y : Int} (h : P2 w B x y) (hb : Below w.heap.size w w') : P2 w' B x y := by
  obtain ⟨h1, h2, h3, h4, h5⟩ := h
  obtain ⟨hc, hf⟩ := bcell hb
  exact ⟨Nat.lt_of_lt_of_le h1 hb.size, (hc _ _ h1).trans h2, (hc _ _ h1).trans h3, (hf _ _ h1).trans h4, (hf _ _ h1).trans h5⟩
theorem P2.new (w : World) (x y : Int) (t : Nat) : P2 (w.alloc (.cells #[.int .i64 x, .int .i64 y] t)) w.heap.size x y := by
  refine ⟨by simp, ?_, ?_, ?_, ?_⟩ <;> simp [go_sem]
theorem P2.other {w : World} {B : Nat} {x y : Int} (h : P2 w B x y) {p : Addr} (hp : p.block ≠ B) (v : Value) : P2 (w.setCell p v) B x y := by
  obtain ⟨h1, h2, h3, h4, h5⟩ := h
  have ne : ∀ i, p ≠ (⟨B, i, none⟩ : Addr) := fun i e => hp (by rw [e])
  refine ⟨by simpa using h1, ?_, ?_, ?_, ?_⟩
  · rw [World.cell?_setCell_other _ _ _ _ (ne 0)]; exact h2
  · rw [World.cell?_setCell_other _ _ _ _ (ne 1)]; exact h3
  · simpa using h4
  · simpa using h5
abbrev fP (B : Nat) (x y : Int) : Fct := ⟨fun w => P2 w B x y, fun _ _ h hb => h.keep hb⟩
theorem Sx.mkP {w0 w : World} {L : List Fct} (h : Sx w0 w L) (x y : Int) (t : Nat) : Sx w0 (w.alloc (.cells #[.int .i64 x, .int .i64 y] t)) (fP w.heap.size x y :: L) := (h.mk1 _).add (fP w.heap.size x y) (P2.new w x y t)

theorem Hsx.call {w0 w1 w2 : World} {L : List Fct} (hb : Below w1.heap.size w1 w2) (h : Hid (Sx w0 w1 L)) : Hid (Sx w0 w2 L) := Lib.hid (h.out.call hb)
theorem Sx.drewN {w0 w : World} {L : List Fct} (h : Sx w0 w L) (q : Nat) : Sx w0 (w.drewN q) L :=
  h.call (below_draws (Below.refl _ _) q)
theorem Hsx.drew {w0 w1 : World} {L : List Fct} (h : Hid (Sx w0 w1 L)) : Hid (Sx w0 w1.drew L) := Lib.hid (h.out.drewN 1)
/-! The cells of the first values of the list, for a region that loads beside calls. -/
theorem vals1 {w0 w : World} {L : List Fct} {B : Nat} {k a b : Int} (h : Hid (Sx w0 w (fV B k a b :: L))) :
    w.cell? ⟨B, 0, none⟩ = some (.int .u8 k) ∧ w.cell? ⟨B, 1, none⟩ = some (.int .i64 a) ∧ w.cell? ⟨B, 2, none⟩ = some (.int .i64 b) ∧ Hid (Sx w0 w (fV B k a b :: L)) := by
  obtain ⟨_, h1, _⟩ := h.out
  exact ⟨h1.2.1, h1.2.2.1, h1.2.2.2.1, h⟩
theorem vals1_on {w0 w1 w2 : World} {L : List Fct} {B : Nat} {k a b : Int} (hb : Below w1.heap.size w1 w2)
    (h : w1.cell? ⟨B, 0, none⟩ = some (.int .u8 k) ∧ w1.cell? ⟨B, 1, none⟩ = some (.int .i64 a) ∧ w1.cell? ⟨B, 2, none⟩ = some (.int .i64 b) ∧ Hid (Sx w0 w1 (fV B k a b :: L))) :
    w2.cell? ⟨B, 0, none⟩ = some (.int .u8 k) ∧ w2.cell? ⟨B, 1, none⟩ = some (.int .i64 a) ∧ w2.cell? ⟨B, 2, none⟩ = some (.int .i64 b) ∧ Hid (Sx w0 w2 (fV B k a b :: L)) := vals1 (Hsx.call hb h.2.2.2)
theorem vals1_st {w0 w : World} {L : List Fct} {B : Nat} {k a b : Int}
    (h : w.cell? ⟨B, 0, none⟩ = some (.int .u8 k) ∧ w.cell? ⟨B, 1, none⟩ = some (.int .i64 a) ∧ w.cell? ⟨B, 2, none⟩ = some (.int .i64 b) ∧ Hid (Sx w0 w (fV B k a b :: L))) : Hid (Sx w0 w (fV B k a b :: L)) := h.2.2.2
theorem vals2 {w0 w : World} {L : List Fct} {B C : Nat} {k a b m c d : Int} (h : Hid (Sx w0 w (fV B k a b :: fV C m c d :: L))) :
    w.cell? ⟨B, 0, none⟩ = some (.int .u8 k) ∧ w.cell? ⟨B, 1, none⟩ = some (.int .i64 a) ∧ w.cell? ⟨B, 2, none⟩ = some (.int .i64 b) ∧ w.cell? ⟨C, 0, none⟩ = some (.int .u8 m) ∧ w.cell? ⟨C, 1, none⟩ = some (.int .i64 c) ∧ w.cell? ⟨C, 2, none⟩ = some (.int .i64 d) ∧ Hid (Sx w0 w (fV B k a b :: fV C m c d :: L)) := by
  obtain ⟨_, h1, h2, _⟩ := h.out
  exact ⟨h1.2.1, h1.2.2.1, h1.2.2.2.1, h2.2.1, h2.2.2.1, h2.2.2.2.1, h⟩
theorem vals2_on {w0 w1 w2 : World} {L : List Fct} {B C : Nat} {k a b m c d : Int} (hb : Below w1.heap.size w1 w2)
    (h : w1.cell? ⟨B, 0, none⟩ = some (.int .u8 k) ∧ w1.cell? ⟨B, 1, none⟩ = some (.int .i64 a) ∧ w1.cell? ⟨B, 2, none⟩ = some (.int .i64 b) ∧ w1.cell? ⟨C, 0, none⟩ = some (.int .u8 m) ∧ w1.cell? ⟨C, 1, none⟩ = some (.int .i64 c) ∧ w1.cell? ⟨C, 2, none⟩ = some (.int .i64 d) ∧ Hid (Sx w0 w1 (fV B k a b :: fV C m c d :: L))) :
    w2.cell? ⟨B, 0, none⟩ = some (.int .u8 k) ∧ w2.cell? ⟨B, 1, none⟩ = some (.int .i64 a) ∧ w2.cell? ⟨B, 2, none⟩ = some (.int .i64 b) ∧ w2.cell? ⟨C, 0, none⟩ = some (.int .u8 m) ∧ w2.cell? ⟨C, 1, none⟩ = some (.int .i64 c) ∧ w2.cell? ⟨C, 2, none⟩ = some (.int .i64 d) ∧ Hid (Sx w0 w2 (fV B k a b :: fV C m c d :: L)) := vals2 (Hsx.call hb h.2.2.2.2.2.2)
theorem vals2_st {w0 w : World} {L : List Fct} {B C : Nat} {k a b m c d : Int}
    (h : w.cell? ⟨B, 0, none⟩ = some (.int .u8 k) ∧ w.cell? ⟨B, 1, none⟩ = some (.int .i64 a) ∧ w.cell? ⟨B, 2, none⟩ = some (.int .i64 b) ∧ w.cell? ⟨C, 0, none⟩ = some (.int .u8 m) ∧ w.cell? ⟨C, 1, none⟩ = some (.int .i64 c) ∧ w.cell? ⟨C, 2, none⟩ = some (.int .i64 d) ∧ Hid (Sx w0 w (fV B k a b :: fV C m c d :: L))) : Hid (Sx w0 w (fV B k a b :: fV C m c d :: L)) := h.2.2.2.2.2.2

/-- '==' of two values. -/
theorem eq_val (d : Nat) (k a b k' a' b' : Int) (v : Bool) (h : (k == k' && a == a' && b == b') = v) (w : World) : (Op.equalIn (d + 1 + 1) 33 (.agg #[.int .u8 k, .int .i64 a, .int .i64 b]) (.agg #[.int .u8 k', .int .i64 a', .int .i64 b'])).run Try.prog w = .ok v w := by
  have hS : Try.prog.underlying 33 = some (.struct (Try.prog.fieldsOf 33)) := by kernel_rfl
  have hp : Try.prog.stoodInHeld 33 = false := by kernel_rfl
  have u1 := Try.underlying5
  have u2 := Try.underlying2
  have h0 : ∀ u v t : Value, (part 5 #[u, v, t] 0).run Try.prog w = .ok u w := fun u v t => by kernel_rfl
  have h1 : ∀ u v t : Value, (part 2 #[u, v, t] 1).run Try.prog w = .ok v w := fun u v t => by kernel_rfl
  have h2 : ∀ u v t : Value, (part 2 #[u, v, t] 2).run Try.prog w = .ok t w := fun u v t => by kernel_rfl
  rw [run_equalIn_agg w (d + 1) 33 _ _ hS hp]
  simp only [Program.fieldsOf, Try.underlying33]
  subst h
  go_simp
  by_cases e1 : k = k' <;> by_cases e2 : a = a' <;> by_cases e3 : b = b' <;> simp [e1, e2, e3]
end Go.Proofs.Ytkifapnmojfjoaa
namespace Go.Proofs.Ytkifapnmojfjoaa
open Go.RowKit
set_option linter.unusedSimpArgs false

/-- Whether a value is external; internal; a kind. -/
def mayB (k a b : Int) : Bool := (k == 1 && b == 0) || (k == 2 && okB a b)
def insB (k a b : Int) : Bool := mayB k a b || (decide (0 ≤ a) && (k == 3 && b == 0))
def kB (k : Int) : Bool := k == 1 || k == 2 || k == 3

end Go.Proofs.Ytkifapnmojfjoaa
